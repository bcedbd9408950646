/-
  Lists of the document's nodes that come in; texts in them are no longer than what can be reached.
  The contract of lexer.Split: the tokens of any text.
  The contracts of lexer.Word and lexer.Right; tokens of whatever parts.
  The contracts of mayBe, fits, isLiteral, isName and Right of package expr.
-/
import Derived.Test.YtljkonkfeiojnaaGreatDoorMBVKeyB
import Derived.Test.YtljkonkfeiojnaaGreatDoorMEEDep
import Derived.Deep.AppendLies
import Derived.BigRegion
set_option maxHeartbeats 4000000
set_option maxRecDepth 100000
namespace Go.Proofs.YtljkonkfeiojnaaGreatDoor
open Go.ChangeShapes Go.WideShapes Go.ChangeAt Go.WideMaps Go.WideElems Go.RowKit Go.Shelf Go.Lib
theorem z9f {H:Type} {enc:TypeId × Value→H} {P:Program} {w:World} {base:Nat} {spare:Nat→Bool} {held:Bool} {t:TypeId} {f0 f1 f2 f3 f4:Field} {fuel:Nat} {cs:List Value} {x:DataW H × List MemPlace} (ht:P.underlying t=some (.struct #[f0,f1,f2,f3,f4])) (h:DataW.trod enc P w base spare held fuel t cs=some x) :
  ∃ y0 y1 y2 y3 y4 n,x.1=.agg [y0.1,y1.1,y2.1,y3.1,y4.1]∧cs.length=P.cellsOf t∧DataW.trod enc P w base spare held n f0.type ((cs.drop f0.offset).take (P.cellsOf f0.type))=some y0 ∧
   DataW.trod enc P w base spare held n f1.type ((cs.drop f1.offset).take (P.cellsOf f1.type))=some y1∧DataW.trod enc P w base spare held n f2.type ((cs.drop f2.offset).take (P.cellsOf f2.type))=some y2 ∧
   DataW.trod enc P w base spare held n f3.type ((cs.drop f3.offset).take (P.cellsOf f3.type))=some y3∧DataW.trod enc P w base spare held n f4.type ((cs.drop f4.offset).take (P.cellsOf f4.type))=some y4:=by
 obtain ⟨xs,n,_,rfl,hl,hlen,hf⟩:=DataW.trod_struct ht h
 match xs,hlen with
 | [y0,y1,y2,y3,y4],_=>exact ⟨y0,y1,y2,y3,y4,n,by simp,hl,by simpa using hf 0 f0 rfl,by simpa using hf 1 f1 rfl,by simpa using hf 2 f2 rfl,by simpa using hf 3 f3 rfl,by simpa using hf 4 f4 rfl⟩
theorem list8 {cs:List Value} (h:cs.length=8):∃ c0 c1 c2 c3 c4 c5 c6 c7,cs=[c0,c1,c2,c3,c4,c5,c6,c7]:=by
 match cs,h with
 | [c0,c1,c2,c3,c4,c5,c6,c7],_=>exact ⟨c0,c1,c2,c3,c4,c5,c6,c7,rfl⟩
theorem nd_cells {H:Type} {enc:TypeId × Value→H} {W:World} {fuel:Nat} {cs:List Value} {x:DataW H × List MemPlace}
  (hf:DataW.trod enc Tryz.prog W 0 (fun _=>true) true fuel 73 cs=some x) :
  ∃ v:Nd,cs=(ncs v).toList∧vin v.v∧v.t.length∈x.1.weights Tryz.prog 73∧v.n.length∈x.1.weights Tryz.prog 73:=by
 obtain ⟨y0,y1,y2,y3,y4,m,hx,hl,h0,h1,h2,h3,h4⟩:=z9f Tryz.underlying73 hf
 have hc:Tryz.prog.cellsOf 73=8:=by kernel_rfl
 rw [hc] at hl
 obtain ⟨c0,c1,c2,c3,c4,c5,c6,c7,rfl⟩:=list8 hl
 obtain ⟨a,ea,rfl,wa⟩:=DataW.trod_int Tryz.underlying3 h0
 obtain ⟨s,es,rfl,ws⟩:=DataW.trod_string Tryz.underlying9 h1
 obtain ⟨u,eu,rfl,wu⟩:=DataW.trod_string Tryz.underlying9 h2
 obtain ⟨v,ev,vi,_,_⟩:=val_cells h3
 obtain ⟨b,eb,rfl,wb⟩:=DataW.trod_int Tryz.underlying3 h4
 have c1':Tryz.prog.cellsOf 3=1:=by kernel_rfl
 have c2':Tryz.prog.cellsOf 9=1:=by kernel_rfl
 have c4':Tryz.prog.cellsOf 44=4:=by kernel_rfl
 rw [c1'] at ea eb
 rw [c2'] at es eu
 rw [c4'] at ev
 simp at ea eb es eu ev
 obtain ⟨e1,e2,e3,e4⟩:=ev
 subst ea;subst eb;subst es;subst eu;subst e1;subst e2;subst e3;subst e4
 refine ⟨⟨a,s.data.toList,u.data.toList,v,b⟩,rfl,vi,?_,?_⟩
 all_goals rw [hx]
 all_goals simp [DataW.weights,Tryz.underlying73,DataW.weightsEach]
theorem cells8 {W:World} {a:Addr} {c0 c1 c2 c3 c4 c5 c6 c7:Value} (h:W.cells? 0 a 8=some [c0,c1,c2,c3,c4,c5,c6,c7]):W.cell? (a.add 0)=some c0∧W.cell? (a.add 1)=some c1∧W.cell? (a.add 2)=some c2∧W.cell? (a.add 3)=some c3∧W.cell? (a.add 4)=some c4∧W.cell? (a.add 5)=some c5∧W.cell? (a.add 6)=some c6∧W.cell? (a.add 7)=some c7:=by
 unfold World.cells? at h
 rw [if_pos (Nat.zero_le _)] at h
 have key:∀ (l:List Nat) (r:List Value),l.mapM (fun j=>W.cell? (a.add j))=some r→∀ (i j:Nat) (v:Value),l[i]?=some j→r[i]?=some v→W.cell? (a.add j)=some v:=by
  intro l
  induction l with
  | nil=>intro r _ i j v hi;simp at hi
  | cons x l ih =>
   intro r hr i j v hi hv
   simp only [List.mapM_cons] at hr
   cases hx:W.cell? (a.add x) with
   | none=>simp [hx] at hr
   | some y =>
    simp only [hx,Option.bind_eq_bind,Option.bind_some] at hr
    cases hm:l.mapM (fun j=>W.cell? (a.add j)) with
    | none=>simp [hm] at hr
    | some q =>
     simp [hm] at hr
     subst hr
     cases i with
     | zero=>simp at hi hv;subst hi;subst hv;exact hx
     | succ i=>simp at hi hv;exact ih q hm i j v hi hv
 have k:=key (List.range 8) _ h
 exact ⟨k 0 0 _ rfl rfl,k 1 1 _ rfl rfl,k 2 2 _ rfl rfl,k 3 3 _ rfl rfl,k 4 4 _ rfl rfl,k 5 5 _ rfl rfl,k 6 6 _ rfl rfl,k 7 7 _ rfl rfl⟩
theorem z5w {H:Type} {P:Program} {e:TypeId} {n:Nat}:∀ {l:List (DataW H)} {d:DataW H},d∈l→n∈d.weights P e→n∈DataW.weightsAll P e l
 | a::l,d,hd,hn=>by
  simp only [DataW.weightsAll,List.mem_append]
  rcases List.mem_cons.1 hd with rfl|hd
  ·exact .inl hn
  ·exact .inr (z5w hd hn)
theorem bytes88:Tryz.prog.bytesOf 73=88:=by kernel_rfl
theorem nods_open {H:Type} {enc:TypeId × Value→H} {W:World} {a:Option Addr} {len cap fuel:Nat} {cs:List Value} {x:DataW H × List MemPlace}
  (hf:DataW.trod enc Tryz.prog W 0 (fun _=>true) true fuel 25 cs=some x) (hcs:cs=[.slice a len cap]) :
  ∃ l:List Nd,(Nw W a l∧l.length=len∧len≤cap∧(∀ v∈l,vin v.v)∧∀ v∈l,v.t.length∈x.1.weights Tryz.prog 25∧v.n.length∈x.1.weights Tryz.prog 25)∧(cap=0∨∃ es sp,x.1=.slice es sp∧es.length+sp.length=cap):=by
 subst hcs
 have hc8:Tryz.prog.cellsOf 73=8:=by kernel_rfl
 rcases Go.Deep.open_slice Tryz.underlying25 hf with ⟨hcs,_⟩|⟨y,l,c,m,n,D,Pl,hcs,_,hl,hm,hmm,hx,hel⟩
 ·simp at hcs
  obtain ⟨rfl,rfl,rfl⟩:=hcs
  exact ⟨[],⟨fun h=>by simp at h,rfl,Nat.le_refl _,(fun v h=>by simp at h),fun v h=>by simp at h⟩,.inl rfl⟩
 ·simp at hcs
  obtain ⟨rfl,rfl,rfl⟩:=hcs
  have hmc:m=cap:=by simpa using hmm
  rw [hc8] at hel
  have ex:∀ i,i<len→∃ v:Nd,W.cells? 0 (y.add (i*8)) 8=some (ncs v).toList∧vin v.v∧v.t.length∈(D i).weights Tryz.prog 73∧v.n.length∈(D i).weights Tryz.prog 73:=by
   intro i hi
   obtain ⟨cs',h1,h2⟩:=hel i (by omega)
   obtain ⟨v,rfl,hv,hb,hb'⟩:=nd_cells h2
   exact ⟨v,h1,hv,hb,hb'⟩
  let f:Nat→Nd:=fun i=>if h:i<len then (ex i h).choose else ⟨0,[],[],⟨0,0,0,[]⟩,0⟩
  have hf:∀ i (h:i<len),W.cells? 0 (y.add (i*8)) 8=some (ncs (f i)).toList∧vin (f i).v∧(f i).t.length∈(D i).weights Tryz.prog 73∧(f i).n.length∈(D i).weights Tryz.prog 73:=by
   intro i h
   have:f i=(ex i h).choose:=dif_pos h
   rw [this]
   exact (ex i h).choose_spec
  have hw:∀ i,i<len→∀ k,k∈(D i).weights Tryz.prog 73→k∈x.1.weights Tryz.prog 25:=by
   intro i hi k hk
   rw [hx]
   simp only [DataW.weights,Tryz.underlying25,List.mem_cons,List.mem_append]
   exact .inr (.inl (z5w (d:=D i) (List.mem_map.2 ⟨i,by simp;omega,rfl⟩) hk))
  refine ⟨(List.range len).map f,⟨?_,by simp,by omega,?_,?_⟩,.inr ⟨_,_,by rw [hx],by simp;omega⟩⟩
  ·intro hp
   simp only [List.length_map,List.length_range] at hp
   obtain ⟨b,off,spot⟩:=y
   have h0:=cells8 (hf 0 hp).1
   have hspot:spot=none:=by simpa [Addr.add] using World.cell?_spot h0.1
   subst hspot
   refine ⟨b,off,rfl,fun i hi=>?_⟩
   simp only [List.length_map,List.length_range] at hi
   obtain ⟨g0,g1,g2,g3,g4,g5,g6,g7⟩:=cells8 (hf i hi).1
   simp only [Addr.add_lit] at g0 g1 g2 g3 g4 g5 g6 g7
   simp only [List.getElem_map,List.getElem_range]
   exact ⟨g0,g1,g2,g3,g4,g5,g6,g7⟩
  ·intro v hv
   simp only [List.mem_map,List.mem_range] at hv
   obtain ⟨i,hi,rfl⟩:=hv
   exact (hf i hi).2.1
  ·intro v hv
   simp only [List.mem_map,List.mem_range] at hv
   obtain ⟨i,hi,rfl⟩:=hv
   exact ⟨hw i hi _ (hf i hi).2.2.1,hw i hi _ (hf i hi).2.2.2⟩
end Go.Proofs.YtljkonkfeiojnaaGreatDoor

namespace Go.Proofs.YtljkonkfeiojnaaGreatDoor
open Go.RowKit Go.Shelf
attribute [local go_sem] z0f z0b z0c z0e z0m z0k z0h z0d z0g
def z7z (x:List Tok):List Value:=x.flatMap fun t=>(tcs t).toList
theorem tcells_snoc (x:List Tok) (t:Tok):z7z (x++[t])=z7z x++(tcs t).toList:=by
 simp [z7z]
abbrev z8f (w:World) (base:Nat) (v:Value) (x:List Tok):Prop:=w.ownsRow base 112 7 v x.length (z7z x)
theorem z8f.later {w w':World} {base:Nat} {v:Value} {x:List Tok} (h:z8f w base v x) (hb:Below w.heap.size w w'):z8f w' base v x :=
 World.ownsRow.kept (row:=none) h ⟨hb.os,hb.tape,hb.output,hb.size,fun k hk _=>hb.block k hk⟩ (by
  cases hv:v.ownBlock with
  | none=>exact .inl rfl
  | some k=>exact .inr (by simp))
theorem Cbox.grown {w w':World} {p:Nat} {cs:Array Value} {ty:TypeId} {row:Option Nat} (h:Cbox w p cs ty) (hg:w.grownBy w' row) (hne:some p≠row):Cbox w' p cs ty:=by
 unfold Cbox
 rw [hg.block p h.lt hne]
 exact h
def splitP (R:Option (List Tok)) (base:Nat) (e:Ending) (w':World):Prop:=match R with
 | none=>e=.returned (.tuple #[.slice none 0 0,.int .i64 30])
 | some x=>∃ v,e=.returned (.tuple #[v,.int .i64 0])∧z8f w' base v x
theorem news_tok (w:World) (o:Obj) (x:Tok):∀ j u,(tcs x).toList[j]?=some u→((w.alloc o).alloc (.cells (tcs x) 112)).cell? ((⟨w.heap.size+1,0,none⟩:Addr).add j)=some u:=by
 have h:=Cbox.new (w.alloc o) (tcs x) 112
 rw [World.size_alloc] at h
 exact World.news_of_block h
theorem one_tok (x:Tok):∀ u∈(tcs x).toList,u.oneCell'=true:=by
 intro u hu
 simp at hu
 rcases hu with rfl|rfl|rfl|rfl|rfl|rfl|rfl <;> rfl
theorem z8f.push {w:World} {base n:Nat} {v:Value} {acc:List Tok} {x:Tok} (h:w.ownsRow base 112 7 v n (z7z acc++(tcs x).toList)) (hn:n=acc.length+1):z8f w base v (acc++[x]):=by
 unfold z8f
 rw [tcells_snoc,List.length_append]
 subst hn
 exact h
theorem infoTok:(Tryz.prog.info? 112).map (fun i=>(i.zero,i.size,i.bytes))=some (some (.agg #[.int .i64 0,.string ⟨#[]⟩,.int .i64 0,.int .i64 0,.int .i64 0,.string ⟨#[]⟩,.int .i64 0]),7,72):=by kernel_rfl
theorem split_any (l:List UInt8) (w:World) (hl:l.length≤4096) (hT:Tabs w) (hP:Ptab w) :
  Calls Tryz.prog 40 #[.string ⟨l.toArray⟩] w fun e w'=>splitP (lexL vz dpv l 0) w.heap.size e w'∧Below w.heap.size w w':=by
 have hsz:(ByteArray.mk l.toArray).size=l.length:=rfl
 have hl':¬ (4096:Int)<(l.length:Int):=by omega
 have PB:∀ (k:Nat) W,k≤l.length→Calls Tryz.prog 64 #[.string ⟨l.toArray⟩,.int .i64 (k:Int)] W fun e w'=>e=.returned (.int .i64 ((k+z1d (l.drop k):Nat):Int))∧W=w':=fun k W h=>pastBlanks_any l k W (by omega) h
 have TA:∀ (k:Nat) W,k≤l.length→Below w.heap.size w W→_:=fun k W h hb=>tokenAt_any l k W (by omega) h (hT.later hb) (hP.later hb)
 have PB0:=fun W=>PB 0 W (by omega)
 clear hT hP
 obtain ⟨R,hR⟩:∃ R,R=lexL vz dpv l 0:=⟨_,rfl⟩
 rw [← hR]
 have h0:Hid (R=lexL vz dpv (l.drop (z1d l)) (z1d l)):=by
  show R=_
  rw [hR,lex_pass,Nat.zero_add]
 have hb0:=blankN_drop l
 have hle0:=blankN_le l
 generalize hB:ByteArray.mk l.toArray=B at *
 go_enter Tryz.func40,Tryz.ntmps40
 go_wp2_with (go_at_call 64;refine (PB0 _).mono ?_;rintro e w' ⟨rfl,rfl⟩)
 go_loopw [4,5] (fun r4 r5 wr=>∃ (acc:List Tok) (k:Nat),r5=.int .i64 (k:Int)∧k≤l.length∧acc.length≤k∧z1d (l.drop k)=0∧z8f wr w.heap.size r4 acc∧Below w.heap.size w wr∧Hid (R=(lexL vz dpv (l.drop k) k).map (acc++·))) (fun _ r _=>l.length - (intOf r).toNat)
 case atStart =>
  refine ⟨[],z1d l,rfl,hle0,Nat.zero_le _,hb0,World.ownsRow_nil _ _ _ _,Below.refl _ _,?_⟩
  show R=_
  rw [h0.out]
  cases lexL vz dpv (l.drop (z1d l)) (z1d l) <;> rfl
 case round =>
  obtain ⟨acc,k,rfl,hk,hak,hbk,ho,hb,hH⟩:=hrel
  have sB:=hb.size
  by_cases hlt:k<l.length
  ·have hlt':(k:Int)<(l.length:Int):=by omega
   have hne:l.drop k≠[]:=by
    intro h
    have:=List.drop_eq_nil_iff.1 h
    omega
   have hhere:=lex_here (z:=vz) (f:=dpv) (l.drop k) k hbk hne
   have TK:=TA k wr hk hb
   cases ht:tok vz dpv (l.drop k) k with
   | none =>
    rw [ht] at TK hhere
    have hR':Hid (R=none):=by
     show R=none
     rw [hH.out,hhere];rfl
    clear hH hhere ht hne hR h0 ho PB PB0 TA
    go_wp2_with (go_at_call 65;refine TK.mono ?_;rintro e w1 ⟨⟨⟨xk,xt,xv,xa⟩,rfl⟩,b1⟩)
    refine bodyPost_ret_by (v:=.tuple #[.slice none 0 0,.int .i64 30]) ?_ rfl ⟨?_,?_⟩
    ·simp [results,Tryz.results40,go_sem]
    ·rw [hR'.out];exact rfl
    ·exact (hb.trans (b1.mono sB)).alloc (by have:=b1.size;omega) _
   | some x =>
    rw [ht] at TK hhere
    obtain ⟨hxt,h2,h3,h4,h5⟩:=tok_len ht
    have h6:=lxt_le (l.drop k)
    rw [List.length_drop] at h6
    obtain ⟨xk,xt,xv,xa⟩:=x
    have e1:((k+xt.length:Nat):Int)=(k:Int)+(xt.length:Int):=by omega
    have hkx:k+xt.length≤l.length:=by simp at h2;omega
    have PBk:∀ W,Calls Tryz.prog 64 #[.string B,.int .i64 ((k:Int)+(xt.length:Int))] W fun e w'=>e=.returned (.int .i64 ((k+xt.length+z1d (l.drop (k+xt.length)):Nat):Int))∧W=w':=fun W=>by
     have:=PB (k+xt.length) W hkx
     rwa [e1] at this
    have hstep:Hid (R=(lexL vz dpv (l.drop (k+xt.length+z1d (l.drop (k+xt.length)))) (k+xt.length+z1d (l.drop (k+xt.length)))).map ((acc++[⟨xk,xt,xv,xa⟩])++·)):=by
     show R=_
     rw [hH.out,hhere]
     simp only
     rw [List.drop_drop,lex_pass,List.drop_drop]
     cases lexL vz dpv (l.drop (k+xt.length+z1d (l.drop (k+xt.length)))) (k+xt.length+z1d (l.drop (k+xt.length))) <;> simp
    have hbn:=blankN_drop (l.drop (k+xt.length))
    have hbl:=blankN_le (l.drop (k+xt.length))
    rw [List.drop_drop] at hbn
    rw [List.length_drop] at hbl
    have hsx:(ByteArray.mk xt.toArray).size=xt.length:=rfl
    have hx1:1≤xt.length:=by simp at h2;omega
    generalize hq:k+xt.length+z1d (l.drop (k+xt.length))=q at *
    have hql:q≤l.length:=by omega
    have hqk:k<q:=by omega
    clear hH hhere ht hne hR h0 PB PB0 TA hxt h2 h3 h4 h5 h6 hbk hq hbl
    obtain ⟨i0,hi,hz0,hz1,hz2⟩:=info_parts infoTok
    go_wp2_with (first
     | (go_at_call 65;refine TK.mono ?_;rintro e w1 ⟨rfl,b1⟩;have s1:=b1.size;have hb1:Below w.heap.size w w1:=hb.trans (b1.mono sB);have ho1:=ho.later b1;clear b1 ho TK)
     | (at_builtin;refine wpList_append_own _ rfl _ _ 84 rfl w.heap.size 112 i0 (.agg #[.int .i64 0,.string ⟨#[]⟩,.int .i64 0,.int .i64 0,.int .i64 0,.string ⟨#[]⟩,.int .i64 0]) 7 72 Tryz.underlying84 hi hz0 hz1 hz2 rfl (by decide) _ _ _ rfl (World.ownsRow.alloc (World.ownsRow.alloc ho1 _) _) ⟨w1.heap.size+1,0,none⟩ 1 1 (tcs ⟨xk,xt,xv,xa⟩).toList rfl rfl (news_tok w1 _ ⟨xk,xt,xv,xa⟩) (one_tok ⟨xk,xt,xv,xa⟩) (by unfold maxLen;omega) (by omega) (by simp;omega) ?_))
    intro v2 w2 hown2 hgrow2 _
    have hb2:Below w.heap.size w w2:=(((hb1.alloc (by omega) _).alloc (by simp;omega) _).grown hgrow2 (by simp;omega) (fun k hk=>(World.ownsRow.lt ho1 k hk).1))
    have ho2:=z8f.push (x:=⟨xk,xt,xv,xa⟩) hown2 rfl
    have hcb:Cbox ((w1.alloc (.cells (tcs ⟨xk,xt,xv,xa⟩) 112)).alloc (.cells (tcs ⟨xk,xt,xv,xa⟩) 112)) w1.heap.size (tcs ⟨xk,xt,xv,xa⟩) 112:=(Cbox.new w1 _ _).later ((Below.refl _ _).alloc (Nat.le_refl _) _)
    have hcb2:=hcb.grown hgrow2 (fun h=>by have:=(World.ownsRow.lt ho1 _ h.symm).2;omega)
    have c1:=hcb2.at 1
    have lt1:=hcb2.lt
    clear hcb hcb2 hown2 hgrow2 ho1 hb1 hb
    go_wp2_with (go_at_call 64;refine (PBk _).mono ?_;rintro e w' ⟨rfl,rfl⟩)
    exact ⟨⟨acc++[⟨xk,xt,xv,xa⟩],q,rfl,hql,by simp;omega,hbn,ho2,hb2,hstep⟩,by simp [intOf];omega⟩
  ·have hlt':¬ (k:Int)<(l.length:Int):=by omega
   have hk':k=l.length:=by omega
   have hR':Hid (R=some acc):=by
    show R=_
    rw [hH.out,hk',List.drop_length,lex_nil]
    simp
   clear hH hR h0 PB PB0 TA
   go_wp2
   refine bodyPost_ret_by (v:=.tuple #[u4,.int .i64 0]) ?_ rfl ⟨?_,hb⟩
   ·simp [results,Tryz.results40,go_sem]
   ·rw [hR'.out];exact ⟨_,rfl,ho⟩
theorem split_big (B:ByteArray) (w:World) (hl:4096<B.size) :
  Calls Tryz.prog 40 #[.string B] w fun e w'=>e=.returned (.tuple #[.slice none 0 0,.int .i64 6])∧w=w':=by
 have hl':(4096:Int)<(B.size:Int):=by omega
 go_enter Tryz.func40,Tryz.ntmps40
 go_wp2
 refine bodyPost_ret_by (v:=.tuple #[.slice none 0 0,.int .i64 6]) ?_ rfl ⟨rfl,rfl⟩
 simp [results,Tryz.results40,go_sem]
def wordL (l:List UInt8):Bool:=decide ((lxt l).1=1)&&(decide ((lxt l).2=l.length)&&decide (l.length≤32))
theorem word_any (l:List UInt8) (w:World) (hl:l.length≤140737488351232):Calls Tryz.prog 49 #[.string ⟨l.toArray⟩] w fun e w'=>e=.returned (.bool (wordL l))∧w=w':=by
 have D:∀ W,Calls Tryz.prog 74 #[.string ⟨l.toArray⟩,.int .i64 0] W fun e w'=>e=.returned (tv l 0)∧W=w':=fun W=>z7b l 0 W hl
 have F:=fun W=>z8z ⟨l.toArray⟩ W
 have hsz:(ByteArray.mk l.toArray).size=l.length:=rfl
 rw [hsz] at F
 unfold tv at D
 rw [List.drop_zero] at D
 unfold wordL
 have hle:=lxt_le l
 by_cases h1:(lxt l).1=1
 ·rw [h1] at D ⊢
  rw [if_neg (by decide),Nat.zero_add] at D
  by_cases h2:(lxt l).2=l.length
  ·rw [h2] at D ⊢
   have hq:((l.length:Int)==(l.length:Int))=true:=by simp
   rw [decide_eq_true rfl,decide_eq_true rfl,Bool.true_and,Bool.true_and]
   generalize decide (l.length≤32)=b at *
   generalize ByteArray.mk l.toArray=B at *
   clear h1 h2 hle
   go_enter Tryz.func49,Tryz.ntmps49
   go_wp2_with (first
    | (go_at_call 74;refine (D _).mono ?_;rintro e w' ⟨rfl,rfl⟩)
    | (go_at_call 75;refine (F _).mono ?_;rintro e w' ⟨rfl,rfl⟩))
   go_ret
   exact ⟨rfl,rfl⟩
  ·have hq:(((lxt l).2:Int)==(l.length:Int))=false:=by rw [beq_eq_false_iff_ne];omega
   rw [decide_eq_false h2,Bool.false_and,Bool.and_false]
   generalize ByteArray.mk l.toArray=B at *
   generalize (lxt l).2=n at *
   clear h1 h2 hle F
   go_enter Tryz.func49,Tryz.ntmps49
   go_wp2_with (go_at_call 74;refine (D _).mono ?_;rintro e w' ⟨rfl,rfl⟩)
   go_ret
   exact ⟨rfl,rfl⟩
 ·have hq:(((lxt l).1:Int)==1)=false:=by rw [beq_eq_false_iff_ne];omega
  rw [decide_eq_false h1,Bool.false_and]
  generalize ByteArray.mk l.toArray=B at *
  generalize ((if (lxt l).1=0 then 0 else 0+(lxt l).2:Nat):Int)=n at *
  generalize (lxt l).1=k at *
  clear h1 hle F
  go_enter Tryz.func49,Tryz.ntmps49
  go_wp2_with (go_at_call 74;refine (D _).mono ?_;rintro e w' ⟨rfl,rfl⟩)
  go_ret
  exact ⟨rfl,rfl⟩
structure Ti where
 k:Int
 t:List UInt8
 v:Va
 a:Int
abbrev ics (x:Ti):Array Value:=#[.int .i64 x.k,.string ⟨x.t.toArray⟩,.int .i64 x.v.k,.int .i64 x.v.n,.int .i64 x.v.m,.string ⟨x.v.b.toArray⟩,.int .i64 x.a]
abbrev tiv (x:Ti):Value:=.agg (ics x)
abbrev tin (x:Tok):Ti:=⟨x.k,x.t,x.v,x.a⟩
def sameW (a b:Va):Bool:=a.k==b.k&&(a.n==b.n&&(a.m==b.m&&a.b==b.b))
def sameT (x y:Ti):Bool:=x.k==y.k&&(x.t==y.t&&(sameW x.v y.v&&x.a==y.a))
theorem eqTk_at (N:Nat) (k k' a a' vk vn vm vk' vn' vm':Int) (b b' c c':ByteArray) (w:World) :
  (Op.equalIn (N+3) 112 (.agg #[.int .i64 k,.string b,.int .i64 vk,.int .i64 vn,.int .i64 vm,.string c,.int .i64 a]) (.agg #[.int .i64 k',.string b',.int .i64 vk',.int .i64 vn',.int .i64 vm',.string c',.int .i64 a'])).run Tryz.prog w
   = .ok (k==k'&&(b.toList==b'.toList&&((vk==vk'&&(vn==vn'&&(vm==vm'&&c.toList==c'.toList)))&&a==a'))) w:=by
 have u3:=Tryz.underlying3
 have a3:=Tryz.isAgg3
 have z3:=Tryz.sizeOf3
 have u4:=Tryz.underlying9
 have a4:=Tryz.isAgg9
 have z4:=Tryz.sizeOf9
 have a5:=Tryz.isAgg44
 have hS:Tryz.prog.underlying 112=some (.struct (Tryz.prog.fieldsOf 112)):=by kernel_rfl
 have hp:Tryz.prog.stoodInHeld 112=false:=by kernel_rfl
 rw [run_equalIn_agg w (N+2) 112 _ _ hS hp]
 simp only [Program.fieldsOf,Tryz.underlying112]
 go_simp
 by_cases h1:k=k'
 case neg=>simp [h1]
 by_cases h2:b.toList=b'.toList
 case neg=>simp [h2]
 by_cases h3:vk=vk'
 case neg=>simp [h3]
 by_cases h4:vn=vn'
 case neg=>simp [h4]
 by_cases h5:vm=vm'
 case neg=>simp [h5]
 by_cases h6:c.toList=c'.toList
 case neg=>simp [h6]
 by_cases h7:a=a' <;> simp [h1,h2,h3,h4,h5,h6,h7]
theorem ba_eq (a b:List UInt8):((ByteArray.mk a.toArray).toList==(ByteArray.mk b.toArray).toList)=(a==b):=by
 rw [ByteArray.toList_eq,ByteArray.toList_eq]
theorem eqTi (x y:Ti) (w:World):(Op.equalIn 10000 112 (tiv x) (tiv y)).run Tryz.prog w=.ok (sameT x y) w:=by
 have:=eqTk_at 9997 x.k y.k x.a y.a x.v.k x.v.n x.v.m y.v.k y.v.n y.v.m ⟨x.t.toArray⟩ ⟨y.t.toArray⟩ ⟨x.v.b.toArray⟩ ⟨y.v.b.toArray⟩ w
 rw [ba_eq,ba_eq] at this
 exact this
def T7 (w:World) (b o:Nat) (x:Ti):Prop :=
 w.cell? ⟨b,o,none⟩=some (.int .i64 x.k)∧w.cell? ⟨b,o+1,none⟩=some (.string ⟨x.t.toArray⟩)∧w.cell? ⟨b,o+2,none⟩=some (.int .i64 x.v.k)∧w.cell? ⟨b,o+3,none⟩=some (.int .i64 x.v.n) ∧
  w.cell? ⟨b,o+4,none⟩=some (.int .i64 x.v.m)∧w.cell? ⟨b,o+5,none⟩=some (.string ⟨x.v.b.toArray⟩)∧w.cell? ⟨b,o+6,none⟩=some (.int .i64 x.a)
theorem T7.lt {w:World} {b o:Nat} {x:Ti} (h:T7 w b o x):b<w.heap.size:=World.block_lt_of_cell? w _ h.1
theorem T7.later {w w':World} {b o:Nat} {x:Ti} (h:T7 w b o x) (hb:Below w.heap.size w w'):T7 w' b o x:=by
 have hl:=h.lt
 obtain ⟨h0,h1,h2,h3,h4,h5,h6⟩:=h
 exact ⟨(hb.cell (p:=⟨b,o,none⟩) hl).trans h0,(hb.cell (p:=⟨b,o+1,none⟩) hl).trans h1,(hb.cell (p:=⟨b,o+2,none⟩) hl).trans h2,(hb.cell (p:=⟨b,o+3,none⟩) hl).trans h3,(hb.cell (p:=⟨b,o+4,none⟩) hl).trans h4,(hb.cell (p:=⟨b,o+5,none⟩) hl).trans h5,(hb.cell (p:=⟨b,o+6,none⟩) hl).trans h6⟩
def Tw (w:World) (ao:Option Addr) (l:List Ti):Prop :=
 0<l.length→∃ b off,ao=some ⟨b,off,none⟩∧∀ i (h:i<l.length),T7 w b (off+i*7) l[i]
theorem Tw.later {w w':World} {ao:Option Addr} {l:List Ti} (h:Tw w ao l) (hb:Below w.heap.size w w'):Tw w' ao l:=by
 intro hp
 obtain ⟨b,off,e,hc⟩:=h hp
 exact ⟨b,off,e,fun i hi=>(hc i hi).later hb⟩
theorem tcells_at (x:List Tok):∀ (i j:Nat) (hi:i<x.length),j<7→(z7z x)[i*7+j]?=(tcs x[i])[j]?:=by
 induction x with
 | nil=>intro i j hi;simp at hi
 | cons t x ih =>
  intro i j hi hj
  have e:z7z (t::x)=(tcs t).toList++z7z x:=by simp [z7z]
  rw [e]
  cases i with
  | zero =>
   rw [List.getElem?_append_left (by simpa using hj)]
   simp
  | succ i =>
   rw [List.getElem?_append_right (by simp;omega)]
   simp at hi
   have:=ih i j hi hj
   simp only [List.getElem_cons_succ]
   rw [← this]
   congr 1
   simp;omega
theorem z8f.shape {w:World} {base:Nat} {v:Value} {x:List Tok} (h:z8f w base v x) :
  ∃ ao cap,v=.slice ao x.length cap∧Tw w ao (x.map tin):=by
 obtain ⟨h1,h2⟩:=h
 rcases h2 with ⟨rfl,hn⟩|⟨g,cap,cur,rfl,hb,hg,hnc,hcm,hcs,htake⟩
 ·refine ⟨none,0,by rw [hn],fun hp=>?_⟩
  rw [List.length_map] at hp
  omega
 ·refine ⟨some ⟨g,0,none⟩,cap,rfl,fun hp=>⟨g,0,rfl,fun i hi=>?_⟩⟩
  rw [List.length_map] at hi
  have hc:∀ j,j<7→w.cell? ⟨g,0+i*7+j,none⟩=(tcs x[i])[j]?:=by
   intro j hj
   rw [← tcells_at x i j hi hj,cell_of_row w g (0+i*7+j) cur _ (0,0) hg,← htake]
   rw [List.getElem?_take,if_pos (by omega),Nat.zero_add]
   simp
  rw [List.getElem_map]
  exact ⟨hc 0 (by decide),hc 1 (by decide),hc 2 (by decide),hc 3 (by decide),hc 4 (by decide),hc 5 (by decide),hc 6 (by decide)⟩
def rt1 (r:Option (List Tok)) (x:Ti):Bool:=match r with|some [y]=>sameT (tin y) ⟨x.k,x.t,x.v,0⟩|_=>false
def rtok (x:Ti):Bool:=if x.t.length≤4096 then rt1 (lexL vz dpv x.t 0) x else false
theorem right_any5 (x:Ti) (w:World) (hT:Tabs w) (hP:Ptab w):Calls Tryz.prog 88 #[tiv x] w fun e w'=>e=.returned (.bool (rtok x))∧Below w.heap.size w w':=by
 obtain ⟨k,t,v,a⟩:=x
 have Z:=Cbox.new w (ics ⟨k,t,v,a⟩) 112
 obtain ⟨G,hG⟩:∃ G,G=rtok ⟨k,t,v,a⟩:=⟨_,rfl⟩
 rw [← hG]
 unfold rtok at hG
 simp only at hG
 by_cases hl:t.length≤4096
 ·have S:∀ W,Below w.heap.size w W→Calls Tryz.prog 40 #[.string ⟨t.toArray⟩] W fun e w'=>splitP (lexL vz dpv t 0) W.heap.size e w'∧Below W.heap.size W w':=fun W h=>split_any t W hl (hT.later h) (hP.later h)
  clear hT hP
  rw [if_pos hl] at hG
  have HG:Hid (G=rt1 (lexL vz dpv t 0) ⟨k,t,v,a⟩):=hG
  clear hG
  go_enter Tryz.func88,Tryz.ntmps88
  go_wp2_with fail
  refine (S _ ((Below.refl _ w).alloc (Nat.le_refl _) _)).mono ?_
  rintro e w1 ⟨he,b1⟩
  have zz:=(Cbox.new w (ics ⟨k,t,v,0⟩) 112).later b1
  have B1:Below w.heap.size w w1:=((Below.refl _ w).alloc (Nat.le_refl _) _).trans (b1.mono (by simp))
  have z0:=zz.at 0
  have z1:=zz.at 1
  have z2:=zz.at 2
  have z3:=zz.at 3
  have z4:=zz.at 4
  have z5:=zz.at 5
  have z6:=zz.at 6
  have lt1:=zz.lt
  clear zz Z S b1
  cases hr:lexL vz dpv t 0 with
  | none =>
   rw [hr] at he
   have he':e=.returned (.tuple #[.slice none 0 0,.int .i64 30]):=he
   subst he'
   have HF:Hid (G=false):=by
    show G=false
    rw [HG.out,hr];rfl
   clear he hr HG
   go_wp2
   go_region
   all_goals go_wp2
   all_goals go_ret
   all_goals exact ⟨by rw [HF.out];rfl,by first|exact B1|exact B1.drew⟩
  | some xs =>
   rw [hr] at he
   obtain ⟨sv,rfl,ho⟩:=he
   obtain ⟨ao,cap,rfl,hw⟩:=ho.shape
   have HG2:Hid (G=rt1 (some xs) ⟨k,t,v,a⟩):=by
    have:=HG.out
    rw [hr] at this
    exact this
   clear ho hr HG
   match xs,hw,HG2 with
   | [],_,HG2 =>
    have HF:Hid (G=false):=HG2.out
    clear HG2
    go_wp2
    go_region
    all_goals go_wp2
    all_goals go_ret
    all_goals exact ⟨by rw [HF.out];rfl,by first|exact B1|exact B1.drew⟩
   | [y],hw,HG2 =>
    obtain ⟨b,off,rfl,hc⟩:=hw (by simp)
    obtain ⟨y0,y1,y2,y3,y4,y5,y6⟩:=hc 0 (by simp)
    have heq:=fun W=>eqTi (tin y) ⟨k,t,v,0⟩ W
    have HF:Hid (G=sameT (tin y) ⟨k,t,v,0⟩):=HG2.out
    clear HG2
    generalize sameT (tin y) ⟨k,t,v,0⟩=g at *
    obtain ⟨yk,yt,yv,ya⟩:=y
    have hlt:=(hc 0 (by simp)).lt
    clear hc hw
    simp only [Nat.zero_mul,Nat.add_zero,List.map_cons,List.map_nil,List.getElem_cons_zero] at y0 y1 y2 y3 y4 y5 y6
    have heq':∀ W,(Op.equalIn 10000 112 (.agg #[.int .i64 (yk:Int),.string ⟨yt.toArray⟩,.int .i64 yv.k,.int .i64 yv.n,.int .i64 yv.m,.string ⟨yv.b.toArray⟩,.int .i64 (ya:Int)]) (.agg #[.int .i64 k,.string ⟨t.toArray⟩,.int .i64 v.k,.int .i64 v.n,.int .i64 v.m,.string ⟨v.b.toArray⟩,.int .i64 0])).run Tryz.prog W=.ok g W:=heq
    clear heq
    go_wp2
    go_region
    all_goals go_wp2
    all_goals go_ret
    all_goals exact ⟨by rw [HF.out];rfl,by first|exact B1|exact B1.drew⟩
   | y1::y2::ys,_,HG2 =>
    have HF:Hid (G=false):=HG2.out
    clear HG2
    have hne:(((y1::y2::ys).length:Int)==1)=false:=by rw [beq_eq_false_iff_ne];simp;omega
    generalize (y1::y2::ys).length=n at *
    go_wp2
    go_region
    all_goals go_wp2
    all_goals go_ret
    all_goals exact ⟨by rw [HF.out];rfl,by first|exact B1|exact B1.drew⟩
 ·have S:∀ W,Calls Tryz.prog 40 #[.string ⟨t.toArray⟩] W fun e w'=>e=.returned (.tuple #[.slice none 0 0,.int .i64 6])∧W=w':=fun W=>split_big ⟨t.toArray⟩ W (by show 4096<t.length;omega)
  rw [if_neg hl] at hG
  have HF:Hid (G=false):=hG
  clear hT hP Z hG
  go_enter Tryz.func88,Tryz.ntmps88
  go_wp2_with (go_at_call 40;refine (S _).mono ?_;rintro e w' ⟨rfl,rfl⟩)
  go_region
  all_goals go_wp2
  all_goals go_ret
  all_goals exact ⟨by rw [HF.out];rfl,by first|exact (Below.refl _ w).alloc (Nat.le_refl _) _|exact ((Below.refl _ w).alloc (Nat.le_refl _) _).drew⟩
def z6m (l:List UInt8):Bool:=wordL l&&!resL l
theorem isName_any (l:List UInt8) (w:World) (hl:l.length≤140737488351232):Calls Tryz.prog 185 #[.string ⟨l.toArray⟩] w fun e w'=>e=.returned (.bool (z6m l))∧w=w':=by
 have A:=fun W=>word_any l W hl
 have B:=fun W=>z6t ⟨l.toArray⟩ W
 have e:(ByteArray.mk l.toArray).toList=l:=by rw [ByteArray.toList_eq]
 rw [e] at B
 clear e
 unfold z6m
 generalize ByteArray.mk l.toArray=S at *
 generalize wordL l=b at *
 cases b with
 | false =>
  clear B
  go_enter Tryz.func185,Tryz.ntmps185
  go_wp2_with (go_at_call 49;refine (A _).mono ?_;rintro e w' ⟨rfl,rfl⟩)
  go_ret
  exact ⟨rfl,rfl⟩
 | true =>
  generalize resL l=r at *
  go_enter Tryz.func185,Tryz.ntmps185
  go_wp2_with (first
   | (go_at_call 49;refine (A _).mono ?_;rintro e w' ⟨rfl,rfl⟩)
   | (go_at_call 50;refine (B _).mono ?_;rintro e w' ⟨rfl,rfl⟩))
  go_ret
  exact ⟨rfl,rfl⟩
def litV (v:Va):Bool:=vr v&&(!(v.k==5)&&decide (0≤v.n))
theorem isLiteral_any (v:Va) (w:World) (hT:Tabs w):Calls Tryz.prog 184 #[va v.k v.n v.m ⟨v.b.toArray⟩] w fun e w'=>e=.returned (.bool (litV v))∧Below w.heap.size w w':=by
 have A:∀ W,Below w.heap.size w W→Calls Tryz.prog 22 #[va v.k v.n v.m ⟨v.b.toArray⟩] W fun e w'=>e=.returned (.bool (vr v))∧Below W.heap.size W w':=fun W h=>z2u v.k v.n v.m ⟨v.b.toArray⟩ W (hT.later h)
 unfold litV
 obtain ⟨vk,vn,vm,vb⟩:=v
 generalize vr ⟨vk,vn,vm,vb⟩=r at *
 simp only at A ⊢
 clear hT
 have Z:=Cbox.new w #[.int .i64 vk,.int .i64 vn,.int .i64 vm,.string ⟨vb.toArray⟩] 44
 have A0:=(Below.refl w.heap.size w).alloc (Nat.le_refl _) (.cells #[.int .i64 vk,.int .i64 vn,.int .i64 vm,.string ⟨vb.toArray⟩] 44)
 cases r with
 | false =>
  clear Z
  go_enter Tryz.func184,Tryz.ntmps184
  go_wp2_with (go_at_call 22;refine (A _ A0).mono ?_;rintro e w1 ⟨rfl,b1⟩;have B1:=A0.trans (b1.mono A0.size))
  go_ret
  exact ⟨rfl,B1⟩
 | true =>
  have hk:(!(vk==5)&&decide (0≤vn))=(if vk=5 then false else decide (0≤vn)):=by
   by_cases h:vk=5
   ·subst h;rfl
   ·rw [if_neg h];simp [h]
  rw [Bool.true_and,hk]
  by_cases h5:vk=5
  ·rw [if_pos h5]
   subst h5
   go_enter Tryz.func184,Tryz.ntmps184
   go_wp2_with (go_at_call 22;refine (A _ A0).mono ?_;rintro e w1 ⟨rfl,b1⟩;have B1:=A0.trans (b1.mono A0.size);have z0:=(Z.later b1).at 0;have z1:=(Z.later b1).at 1;have zl:=(Z.later b1).lt)
   go_ret
   exact ⟨rfl,B1⟩
  ·rw [if_neg h5]
   have h5':(vk==5)=false:=by rw [beq_eq_false_iff_ne];exact h5
   go_enter Tryz.func184,Tryz.ntmps184
   go_wp2_with (go_at_call 22;refine (A _ A0).mono ?_;rintro e w1 ⟨rfl,b1⟩;have B1:=A0.trans (b1.mono A0.size);have z0:=(Z.later b1).at 0;have z1:=(Z.later b1).at 1;have zl:=(Z.later b1).lt)
   go_ret
   exact ⟨by show Ending.returned _=_;congr 2;simp [h5],B1⟩
def fitN (x:Nd):Bool:=if x.o=1 then litV x.v else if x.o=2 then z6m x.n&&(x.t==[] || z6m x.t) else if x.o=19 then z6m x.n&&(decide (0≤x.a)&&decide (x.a≤4)) else decide (3≤x.o)&&decide (x.o≤18)
def mayN (x:Nd):Bool:=sameN x (namedN x)&&fitN x
theorem mayN_ops (x:Nd) (h:mayN x=true):0≤opsN x∧opsN x≤4:=by
 unfold mayN fitN at h
 unfold opsN
 obtain ⟨xo,xt,xn,xv,xa⟩:=x
 simp only [Bool.and_eq_true] at h ⊢
 by_cases h1:xo=1
 ·subst h1;simp
 by_cases h2:xo=2
 ·subst h2;simp
 by_cases h3:xo=19
 ·rw [if_neg h1,if_neg h2,if_pos h3] at h
  rw [if_pos h3]
  have:=h.2
  simp at this
  omega
 ·rw [if_neg h3]
  split
  ·omega
  split <;> omega
theorem z7q (x:Nd) (w:World) (hT:Tabs w) (ht:x.t.length≤140737488351232) (hn:x.n.length≤140737488351232):Calls Tryz.prog 139 #[ndv x] w fun e w'=>e=.returned (.bool (fitN x))∧Below w.heap.size w w':=by
 have L:=fun W (h:Below w.heap.size w W)=>isLiteral_any x.v W (hT.later h)
 have N1:=fun W=>isName_any x.n W hn
 have N2:=fun W=>isName_any x.t W ht
 clear hT
 obtain ⟨xo,xt,xn,xv,xa⟩:=x
 unfold fitN
 simp only at L N1 N2 ht hn ⊢
 have A0:=(Below.refl w.heap.size w).alloc (Nat.le_refl _) (.cells (ncs ⟨xo,xt,xn,xv,xa⟩) 74)
 by_cases h1:xo=1
 ·subst h1
  rw [if_pos rfl]
  clear N1 N2
  generalize litV xv=r at *
  go_enter Tryz.func139,Tryz.ntmps139
  go_wp2_with (go_at_call 184;refine (L _ A0).mono ?_;rintro e w1 ⟨rfl,b1⟩;have B1:=A0.trans (b1.mono A0.size))
  go_ret
  exact ⟨rfl,B1⟩
 have e1:(xo==1)=false:=by rw [beq_eq_false_iff_ne];exact h1
 rw [if_neg h1]
 clear L
 by_cases h2:xo=2
 ·subst h2
  rw [if_pos rfl]
  by_cases hx:xt=[]
  ·subst hx
   clear N2
   generalize z6m xn=r1 at *
   cases r1
   all_goals (
    go_enter Tryz.func139,Tryz.ntmps139
    go_wp2_with (go_at_call 185;refine (N1 _).mono ?_;rintro e w' ⟨rfl,rfl⟩)
    go_ret
    exact ⟨rfl,A0⟩)
  ·have hem:(ByteArray.mk xt.toArray).toList.isEmpty=false:=by
    rw [Lib.toList_data]
    cases xt with
    | nil=>exact absurd rfl hx
    | cons=>rfl
   have hxe:(xt==[])=false:=by rw [beq_eq_false_iff_ne];exact hx
   rw [hxe,Bool.false_or]
   have hx2:xt.isEmpty=false:=by cases xt with|nil=>exact absurd rfl hx|cons=>rfl
   clear hxe
   generalize z6m xn=r1 at *
   generalize z6m xt=r2 at *
   cases r1
   all_goals (
    go_enter Tryz.func139,Tryz.ntmps139
    go_wp2_with (first
     | (go_at_call_of 185 (Value.string ⟨xn.toArray⟩);refine (N1 _).mono ?_;rintro e w' ⟨rfl,rfl⟩)
     | (go_at_call_of 185 (Value.string ⟨xt.toArray⟩);refine (N2 _).mono ?_;rintro e w' ⟨rfl,rfl⟩))
    go_ret
    exact ⟨rfl,A0⟩)
 have e2:(xo==2)=false:=by rw [beq_eq_false_iff_ne];exact h2
 rw [if_neg h2]
 clear N2
 by_cases h3:xo=19
 ·subst h3
  rw [if_pos rfl]
  generalize z6m xn=r1 at *
  cases r1 with
  | false =>
   go_enter Tryz.func139,Tryz.ntmps139
   go_wp2_with (go_at_call 185;refine (N1 _).mono ?_;rintro e w' ⟨rfl,rfl⟩)
   go_ret
   exact ⟨rfl,A0⟩
  | true =>
   by_cases h4:0≤xa
   ·rw [decide_eq_true h4]
    go_enter Tryz.func139,Tryz.ntmps139
    go_wp2_with (go_at_call 185;refine (N1 _).mono ?_;rintro e w' ⟨rfl,rfl⟩)
    go_ret
    exact ⟨rfl,A0⟩
   ·rw [decide_eq_false h4]
    go_enter Tryz.func139,Tryz.ntmps139
    go_wp2_with (go_at_call 185;refine (N1 _).mono ?_;rintro e w' ⟨rfl,rfl⟩)
    go_ret
    exact ⟨rfl,A0⟩
 ·have e3:(xo==19)=false:=by rw [beq_eq_false_iff_ne];exact h3
  rw [if_neg h3]
  clear N1
  by_cases h4:3≤xo
  ·rw [decide_eq_true h4]
   go_enter Tryz.func139,Tryz.ntmps139
   go_wp2
   go_ret
   exact ⟨rfl,A0⟩
  ·rw [decide_eq_false h4]
   go_enter Tryz.func139,Tryz.ntmps139
   go_wp2
   go_ret
   exact ⟨rfl,A0⟩
theorem mayBe_any (x:Nd) (w:World) (hT:Tabs w) (ht:x.t.length≤140737488351232) (hn:x.n.length≤140737488351232):Calls Tryz.prog 104 #[ndv x] w fun e w'=>e=.returned (.bool (mayN x))∧Below w.heap.size w w':=by
 have F:=fun W (h:Below w.heap.size w W)=>z7q x W (hT.later h) ht hn
 have M:=fun W=>enamed_any x W
 clear hT
 unfold mayN
 have E:=fun W=>eqNd x (namedN x) W
 generalize sameN x (namedN x)=s at *
 generalize fitN x=f at *
 generalize namedN x=y at *
 obtain ⟨xo,xt,xn,xv,xa⟩:=x
 obtain ⟨yo,yt,yn,yv,ya⟩:=y
 have A0:=(Below.refl w.heap.size w).alloc (Nat.le_refl _) (.cells (ncs ⟨xo,xt,xn,xv,xa⟩) 74)
 have Z:Cbox (w.alloc (.cells (ncs ⟨xo,xt,xn,xv,xa⟩) 74)).drew w.heap.size (ncs ⟨xo,xt,xn,xv,xa⟩) 74:=Cbox.new w (ncs ⟨xo,xt,xn,xv,xa⟩) 74
 cases s with
 | false =>
  go_enter Tryz.func104,Tryz.ntmps104
  go_wp2
  refine wp_region_held_drew (S:=(fun W=>Cbox W w.heap.size (ncs ⟨xo,xt,xn,xv,xa⟩) 74∧Below w.heap.size w W)) gK ?_ (fun hHeld=>?_)
  ·((try dsimp only);exact ⟨Z,A0.drew⟩)
  refine wpAnyH_take (i:=0) (oi:=⟨some 3,.load 74 (.tmp 1),74, "expr.go:124",#[],none⟩) (v:=?_) rfl gK gK gK (fun _ _ _ h=>h) (Or.inl ⟨by rfl,?_⟩) (by assumption) ?_
  rotate_left
  ·(intro W hSw;(try dsimp only at hSw);have z0:=hSw.1.at 0;have z1:=hSw.1.at 1;have z2:=hSw.1.at 2;have z3:=hSw.1.at 3;have z4:=hSw.1.at 4;have z5:=hSw.1.at 5;have z6:=hSw.1.at 6;have z7:=hSw.1.at 7;clear hSw;first|(go_simp;done)|(go_simp;with_reducible rfl))
  try simp only [Act.put,sA,sB,sC]
  refine wpAnyH_take (i:=1) (oi:=⟨some 4,.load 74 (.tmp 1),74, "expr.go:124",#[],none⟩) (v:=?_) rfl gK gK gK (fun _ _ _ h=>h) (Or.inl ⟨by rfl,?_⟩) (by assumption) ?_
  rotate_left
  ·(intro W hSw;(try dsimp only at hSw);have z0:=hSw.1.at 0;have z1:=hSw.1.at 1;have z2:=hSw.1.at 2;have z3:=hSw.1.at 3;have z4:=hSw.1.at 4;have z5:=hSw.1.at 5;have z6:=hSw.1.at 6;have z7:=hSw.1.at 7;clear hSw;first|(go_simp;done)|(go_simp;with_reducible rfl))
  try simp only [Act.put,sA,sB,sC]
  refine wpAnyH_ready (rs:=[2]) gK (by simp) ?_
  refine AllReadyH.cons (o:=⟨some 5,.call { callee:=Callee.value (Operand.func 138),args:=#[.tmp 4],argTypes:=#[74] },74, "expr.go:124",#[⟨1,.data⟩],none⟩) rfl (fun K hK=>?_) AllReadyH.nil
  go_simp
  go_wp2_with (go_at_call 138;refine (M _).mono ?_;rintro e w2 ⟨rfl,g2⟩;have b2:=g2.below;clear g2)
  refine hK.out _ _ ?_ (fun hHeld=>?_)
  ·((try dsimp only);first|exact ⟨hHeld.1.later b3,hHeld.2.trans (b3.mono hHeld.2.size)⟩|exact ⟨hHeld.1.later b2,hHeld.2.trans (b2.mono hHeld.2.size)⟩)
  clear hK K
  try simp only [Act.put,sA,sB,sC]
  refine wpAnyH_take (i:=3) (oi:=⟨some 6,.binOp .eql 74 (.tmp 3) (.tmp 5) 74,4, "expr.go:124",#[⟨0,.data⟩,⟨2,.data⟩],none⟩) (v:=?_) rfl gK gK gK (fun _ _ _ h=>h) (Or.inl ⟨by rfl,?_⟩) (by assumption) ?_
  rotate_left
  ·(intro W hSw;(try dsimp only at hSw);have z0:=hSw.1.at 0;have z1:=hSw.1.at 1;have z2:=hSw.1.at 2;have z3:=hSw.1.at 3;have z4:=hSw.1.at 4;have z5:=hSw.1.at 5;have z6:=hSw.1.at 6;have z7:=hSw.1.at 7;clear hSw;first|(go_simp;done)|(go_simp;with_reducible rfl))
  try simp only [Act.put,sA,sB,sC]
  refine wpAnyH_take (i:=4) (oi:=⟨some 7,.move (.tmp 6),4, "expr.go:124",#[⟨3,.data⟩,⟨2,.chain⟩],none⟩) (v:=?_) rfl gK gK gK (fun _ _ _ h=>h) (Or.inl ⟨by rfl,?_⟩) (by assumption) ?_
  rotate_left
  ·(intro W hSw;(try dsimp only at hSw);have z0:=hSw.1.at 0;have z1:=hSw.1.at 1;have z2:=hSw.1.at 2;have z3:=hSw.1.at 3;have z4:=hSw.1.at 4;have z5:=hSw.1.at 5;have z6:=hSw.1.at 6;have z7:=hSw.1.at 7;clear hSw;first|(go_simp;done)|(go_simp;with_reducible rfl))
  try simp only [Act.put,sA,sB,sC]
  refine wpAnyH_take (i:=5) (oi:=⟨some 8,.load 74 (.tmp 1),74, "expr.go:124",#[⟨4,.guard⟩],some (4,true)⟩) (v:=undef) rfl gK gK gK (fun _ _ _ h=>h) (Or.inr ⟨by rfl,rfl⟩) (by assumption) ?_
  try simp only [Act.put,sA,sB,sC]
  refine wpAnyH_take (i:=6) (oi:=⟨some 9,.call { callee:=Callee.value (Operand.func 139),args:=#[.tmp 8],argTypes:=#[74] },4, "expr.go:124",#[⟨5,.data⟩,⟨4,.chain⟩,⟨4,.guard⟩],some (4,true)⟩) (v:=undef) rfl gK gK gK (fun _ _ _ h=>h) (Or.inr ⟨by rfl,rfl⟩) (by assumption) ?_
  try simp only [Act.put,sA,sB,sC]
  refine wpAnyH_take (i:=7) (oi:=⟨some 10,.pick (.tmp 7) (.tmp 9) (.const (Value.bool false)),4, "expr.go:124",#[⟨4,.data⟩,⟨6,.data⟩],none⟩) (v:=?_) rfl gK gK gK (fun _ _ _ h=>h) (Or.inl ⟨by rfl,?_⟩) (by assumption) ?_
  rotate_left
  ·(intro W hSw;(try dsimp only at hSw);have z0:=hSw.1.at 0;have z1:=hSw.1.at 1;have z2:=hSw.1.at 2;have z3:=hSw.1.at 3;have z4:=hSw.1.at 4;have z5:=hSw.1.at 5;have z6:=hSw.1.at 6;have z7:=hSw.1.at 7;clear hSw;first|(go_simp;done)|(go_simp;with_reducible rfl))
  try simp only [Act.put,sA,sB,sC]
  refine wpAnyH_take (i:=8) (oi:=⟨some 2,.assign (.tmp 10),4, "expr.go:124",#[⟨7,.data⟩,⟨6,.chain⟩,⟨0,.phase⟩,⟨1,.phase⟩,⟨2,.phase⟩,⟨3,.phase⟩,⟨4,.phase⟩,⟨5,.phase⟩,⟨6,.phase⟩,⟨7,.phase⟩],none⟩) (v:=?_) rfl gK gK gK (fun _ _ _ h=>h) (Or.inl ⟨by rfl,?_⟩) (by assumption) ?_
  rotate_left
  ·(intro W hSw;(try dsimp only at hSw);have z0:=hSw.1.at 0;have z1:=hSw.1.at 1;have z2:=hSw.1.at 2;have z3:=hSw.1.at 3;have z4:=hSw.1.at 4;have z5:=hSw.1.at 5;have z6:=hSw.1.at 6;have z7:=hSw.1.at 7;clear hSw;first|(go_simp;done)|(go_simp;with_reducible rfl))
  try simp only [Act.put,sA,sB,sC]
  refine wpAnyH_done gK ?_ _
  go_wp2
  go_ret
  exact ⟨rfl,hHeld.2⟩
 | true =>
  go_enter Tryz.func104,Tryz.ntmps104
  go_wp2
  refine wp_region_held_drew (S:=(fun W=>Cbox W w.heap.size (ncs ⟨xo,xt,xn,xv,xa⟩) 74∧Below w.heap.size w W)) gK ?_ (fun hHeld=>?_)
  ·((try dsimp only);exact ⟨Z,A0.drew⟩)
  refine wpAnyH_take (i:=0) (oi:=⟨some 3,.load 74 (.tmp 1),74, "expr.go:124",#[],none⟩) (v:=?_) rfl gK gK gK (fun _ _ _ h=>h) (Or.inl ⟨by rfl,?_⟩) (by assumption) ?_
  rotate_left
  ·(intro W hSw;(try dsimp only at hSw);have z0:=hSw.1.at 0;have z1:=hSw.1.at 1;have z2:=hSw.1.at 2;have z3:=hSw.1.at 3;have z4:=hSw.1.at 4;have z5:=hSw.1.at 5;have z6:=hSw.1.at 6;have z7:=hSw.1.at 7;clear hSw;first|(go_simp;done)|(go_simp;with_reducible rfl))
  try simp only [Act.put,sA,sB,sC]
  refine wpAnyH_take (i:=1) (oi:=⟨some 4,.load 74 (.tmp 1),74, "expr.go:124",#[],none⟩) (v:=?_) rfl gK gK gK (fun _ _ _ h=>h) (Or.inl ⟨by rfl,?_⟩) (by assumption) ?_
  rotate_left
  ·(intro W hSw;(try dsimp only at hSw);have z0:=hSw.1.at 0;have z1:=hSw.1.at 1;have z2:=hSw.1.at 2;have z3:=hSw.1.at 3;have z4:=hSw.1.at 4;have z5:=hSw.1.at 5;have z6:=hSw.1.at 6;have z7:=hSw.1.at 7;clear hSw;first|(go_simp;done)|(go_simp;with_reducible rfl))
  try simp only [Act.put,sA,sB,sC]
  refine wpAnyH_ready (rs:=[2]) gK (by simp) ?_
  refine AllReadyH.cons (o:=⟨some 5,.call { callee:=Callee.value (Operand.func 138),args:=#[.tmp 4],argTypes:=#[74] },74, "expr.go:124",#[⟨1,.data⟩],none⟩) rfl (fun K hK=>?_) AllReadyH.nil
  go_simp
  go_wp2_with (go_at_call 138;refine (M _).mono ?_;rintro e w2 ⟨rfl,g2⟩;have b2:=g2.below;clear g2)
  refine hK.out _ _ ?_ (fun hHeld=>?_)
  ·((try dsimp only);first|exact ⟨hHeld.1.later b3,hHeld.2.trans (b3.mono hHeld.2.size)⟩|exact ⟨hHeld.1.later b2,hHeld.2.trans (b2.mono hHeld.2.size)⟩)
  clear hK K
  try simp only [Act.put,sA,sB,sC]
  refine wpAnyH_take (i:=3) (oi:=⟨some 6,.binOp .eql 74 (.tmp 3) (.tmp 5) 74,4, "expr.go:124",#[⟨0,.data⟩,⟨2,.data⟩],none⟩) (v:=?_) rfl gK gK gK (fun _ _ _ h=>h) (Or.inl ⟨by rfl,?_⟩) (by assumption) ?_
  rotate_left
  ·(intro W hSw;(try dsimp only at hSw);have z0:=hSw.1.at 0;have z1:=hSw.1.at 1;have z2:=hSw.1.at 2;have z3:=hSw.1.at 3;have z4:=hSw.1.at 4;have z5:=hSw.1.at 5;have z6:=hSw.1.at 6;have z7:=hSw.1.at 7;clear hSw;first|(go_simp;done)|(go_simp;with_reducible rfl))
  try simp only [Act.put,sA,sB,sC]
  refine wpAnyH_take (i:=4) (oi:=⟨some 7,.move (.tmp 6),4, "expr.go:124",#[⟨3,.data⟩,⟨2,.chain⟩],none⟩) (v:=?_) rfl gK gK gK (fun _ _ _ h=>h) (Or.inl ⟨by rfl,?_⟩) (by assumption) ?_
  rotate_left
  ·(intro W hSw;(try dsimp only at hSw);have z0:=hSw.1.at 0;have z1:=hSw.1.at 1;have z2:=hSw.1.at 2;have z3:=hSw.1.at 3;have z4:=hSw.1.at 4;have z5:=hSw.1.at 5;have z6:=hSw.1.at 6;have z7:=hSw.1.at 7;clear hSw;first|(go_simp;done)|(go_simp;with_reducible rfl))
  try simp only [Act.put,sA,sB,sC]
  refine wpAnyH_take (i:=5) (oi:=⟨some 8,.load 74 (.tmp 1),74, "expr.go:124",#[⟨4,.guard⟩],some (4,true)⟩) (v:=?_) rfl gK gK gK (fun _ _ _ h=>h) (Or.inl ⟨by rfl,?_⟩) (by assumption) ?_
  rotate_left
  ·(intro W hSw;(try dsimp only at hSw);have z0:=hSw.1.at 0;have z1:=hSw.1.at 1;have z2:=hSw.1.at 2;have z3:=hSw.1.at 3;have z4:=hSw.1.at 4;have z5:=hSw.1.at 5;have z6:=hSw.1.at 6;have z7:=hSw.1.at 7;clear hSw;first|(go_simp;done)|(go_simp;with_reducible rfl))
  try simp only [Act.put,sA,sB,sC]
  refine wpAnyH_ready (rs:=[6]) gK (by simp) ?_
  refine AllReadyH.cons (o:=⟨some 9,.call { callee:=Callee.value (Operand.func 139),args:=#[.tmp 8],argTypes:=#[74] },4, "expr.go:124",#[⟨5,.data⟩,⟨4,.chain⟩,⟨4,.guard⟩],some (4,true)⟩) rfl (fun K hK=>?_) AllReadyH.nil
  go_simp
  go_wp2_with (go_at_call 139;refine (F _ hHeld.2).mono ?_;rintro e w3 ⟨rfl,b3⟩)
  refine hK.out _ _ ?_ (fun hHeld=>?_)
  ·((try dsimp only);first|exact ⟨hHeld.1.later b3,hHeld.2.trans (b3.mono hHeld.2.size)⟩|exact ⟨hHeld.1.later b2,hHeld.2.trans (b2.mono hHeld.2.size)⟩)
  clear hK K
  try simp only [Act.put,sA,sB,sC]
  refine wpAnyH_take (i:=7) (oi:=⟨some 10,.pick (.tmp 7) (.tmp 9) (.const (Value.bool false)),4, "expr.go:124",#[⟨4,.data⟩,⟨6,.data⟩],none⟩) (v:=?_) rfl gK gK gK (fun _ _ _ h=>h) (Or.inl ⟨by rfl,?_⟩) (by assumption) ?_
  rotate_left
  ·(intro W hSw;(try dsimp only at hSw);have z0:=hSw.1.at 0;have z1:=hSw.1.at 1;have z2:=hSw.1.at 2;have z3:=hSw.1.at 3;have z4:=hSw.1.at 4;have z5:=hSw.1.at 5;have z6:=hSw.1.at 6;have z7:=hSw.1.at 7;clear hSw;first|(go_simp;done)|(go_simp;with_reducible rfl))
  try simp only [Act.put,sA,sB,sC]
  refine wpAnyH_take (i:=8) (oi:=⟨some 2,.assign (.tmp 10),4, "expr.go:124",#[⟨7,.data⟩,⟨6,.chain⟩,⟨0,.phase⟩,⟨1,.phase⟩,⟨2,.phase⟩,⟨3,.phase⟩,⟨4,.phase⟩,⟨5,.phase⟩,⟨6,.phase⟩,⟨7,.phase⟩],none⟩) (v:=?_) rfl gK gK gK (fun _ _ _ h=>h) (Or.inl ⟨by rfl,?_⟩) (by assumption) ?_
  rotate_left
  ·(intro W hSw;(try dsimp only at hSw);have z0:=hSw.1.at 0;have z1:=hSw.1.at 1;have z2:=hSw.1.at 2;have z3:=hSw.1.at 3;have z4:=hSw.1.at 4;have z5:=hSw.1.at 5;have z6:=hSw.1.at 6;have z7:=hSw.1.at 7;clear hSw;first|(go_simp;done)|(go_simp;with_reducible rfl))
  try simp only [Act.put,sA,sB,sC]
  refine wpAnyH_done gK ?_ _
  go_wp2
  go_ret
  exact ⟨rfl,hHeld.2⟩
end Go.Proofs.YtljkonkfeiojnaaGreatDoor
