/-
  Plain facts on numbers and bytes that the walks of package codec lean on: how a number is folded, cut into groups of seven bits, and read back. Nothing of the program is in it.
  Laws on slices of bytes that the walks lean on: what a slice reads as, what becomes of it behind new memory, and append from a slice or a string onto a row that the call itself made. Nothing of the program's code is in it.
  The contracts of codec.fold, codec.unfold, codec.appendNumber, codec.Number: what each call gives, for every number.
  A scope that is entered ahead of its one label and jumps back to it: what holds at the label each time, and a measure. Nothing of the program is in it.
  Tokens of a text, with no program in it: words, signs, numbers and texts by their bytes; the tokens of a text, of a text with blanks around it, of two texts with a blank between.
  A scope with several labels: what holds at each of them whenever it is jumped to, and a measure. Nothing of the program is in it.
-/
import Derived.WalkKit
import Derived.Laws.BitsAllLaws
import Derived.WalkSmall
import Derived.WalkSpells
import Derived.Deep.AppendSrc
import Derived.Laws.IdiomStrings
import Derived.Test.YtljkonkfeiojnaaGreatDoorProg
import Derived.WalkLawsBesides
import Derived.ScopeJumps
import Derived.Tactics
set_option maxRecDepth 4000
namespace Go.Proofs.YtljkonkfeiojnaaGreatDoor
open Go.RowKit
def bv (bs:List UInt8):List Value:=bs.map fun b=>Value.int .u8 (b.toNat:Int)
theorem bv_length (bs:List UInt8):(bv bs).length=bs.length:=by simp [bv]
theorem bv_append (a b:List UInt8):bv (a++b)=bv a++bv b:=by simp [bv]
theorem bv_at (bs:List UInt8) (j:Nat) (h:j<bs.length):(bv bs)[j]?=some (Value.int .u8 (bs[j].toNat:Int)):=by simp [bv,h]
def Own (w:World) (base:Nat) (v:Value) (bs:List UInt8):Prop:=w.ownsRow base 5 1 v bs.length (bv bs)
/-! ### folds -/
/-! ### a number's bytes -/
def nb:Nat→Nat→List UInt8
 | 0,u=>[UInt8.ofNat u]
 | f+1,u=>if u<128 then [UInt8.ofNat u] else UInt8.ofNat (u%128+128)::nb f (u / 128)
/-! ### a number read out of bytes: its fold,how many bytes,which error -/
end Go.Proofs.YtljkonkfeiojnaaGreatDoor

namespace Go.Proofs.YtljkonkfeiojnaaGreatDoor
open Go.RowKit
section
variable {P:Program} {w:World}
theorem z4r (t tx ty e:TypeId) (i:TypeInfo) (ht:P.underlying t=some (.slice e)) (hi:P.info? e=some i)
  (g sLen sCap:Nat) (cur:Array Value) (hg:w.heap[g]?=some (.cells cur e (0,0))) (x:Value) (m:Nat) (news:List Value) (hs:Src P i.size tx x m news w)
  (hroom:sLen+m≤sCap) (hfit:sLen*i.size+news.length≤cur.size) :
  (Builtin.append_ #[t,tx] ty #[.slice (some ⟨g,0,none⟩) sLen sCap,x]).run P w =
   .ok (.slice (some ⟨g,0,none⟩) (sLen+m) sCap) (w.setRow g (cur.toList.take (sLen*i.size)++news++cur.toList.drop (sLen*i.size+news.length)).toArray):=by
 have hst:=run_storeCells_at P g (sLen*i.size) e news 0 cur w hg (by simpa using hfit) hs.one
 simp only [Nat.add_zero] at hst
 rcases hs.kind with ⟨e',hk⟩|hk <;> simp [Builtin.append_,run_underlying ht,run_underlying hk,sizeOf,typeInfo,hi,hs.len,hroom,hs.cells,Addr.add_lit,hst]
theorem run_append_from (base:Nat) (t tx ty e:TypeId) (i:TypeInfo) (z:Value) (size bytes:Nat) (ht:P.underlying t=some (.slice e)) (hi:P.info? e=some i) (hz:i.zero=some z)
  (hsize:i.size=size) (hby:i.bytes=bytes) (hzs:z.cells.size=size)
  (v:Value) (n:Nat) (xs:List Value) (hown:w.ownsRow base e size v n xs) (x:Value) (m:Nat) (news:List Value) (hs:Src P size tx x m news w)
  (h63:n+m≤maxLen) (hbytes:(n+m)*bytes≤140737488355328) (hbase:base≤w.heap.size) :
  ∃ v' w',(Builtin.append_ #[t,tx] ty #[v,x]).run P w=.ok v' w'∧w'.ownsRow base e size v' (n+m) (xs++news)∧w.grownBy w' v.ownBlock:=by
 subst hsize
 subst hby
 have hl:=hs.newsLen
 have hsmall:n+m≤9223372036854775807:=by simp only [maxLen] at h63;omega
 have hlen:(xs++news).length=(n+m)*i.size:=by rw [List.length_append,hown.1,hl,Nat.add_mul]
 have grown:∀ (old:Nat),old<n+m→∀ (row:Option Nat),
   (w.drew.alloc (.cells ((xs++news).toArray++Builtin.zeroCells z.cells (grownCap w (n+m) old e - (n+m))) e)).ownsRow base e i.size
    (.slice (some ⟨w.heap.size,0,none⟩) (n+m) (grownCap w (n+m) old e)) (n+m) (xs++news) ∧
   w.grownBy (w.drew.alloc (.cells ((xs++news).toArray++Builtin.zeroCells z.cells (grownCap w (n+m) old e - (n+m))) e)) row:=by
  intro old ho row
  have hge:=grownCap_ge w (n+m) old e
  have hcm:grownCap w (n+m) old e≤maxLen:=grownCap_le_maxLen w (n+m) old e h63
  refine ⟨⟨hlen,.inr ⟨w.heap.size,_,_,rfl,hbase,heap_alloc_new w.drew _,hge,hcm,?_,?_⟩⟩,⟨rfl,rfl,rfl,by simp,fun k hk _=>Below.heap_alloc w.drew _ k hk⟩⟩
  ·simp only [Array.size_append,List.size_toArray,size_zeroCells,hzs,hlen,← Nat.add_mul]
   congr 1
   omega
  ·simp only [Array.toList_append]
   rw [← hlen]
   exact List.take_left
 rcases hown.2 with ⟨rfl,rfl⟩|⟨g,cap,cur,rfl,hbg,hg,hnc,hcm,hcs,htake⟩
 ·have hx:xs=[]:=List.eq_nil_of_length_eq_zero (by simpa using hown.1)
  subst hx
  by_cases hm:m=0
  ·subst hm
   have hn:news=[]:=List.eq_nil_of_length_eq_zero (by simpa using hl)
   subst hn
   have hcl:=hs.cells
   refine ⟨.slice none 0 0,w,?_,World.ownsRow_nil w base e i.size,⟨rfl,rfl,rfl,Nat.le_refl _,fun _ _ _=>rfl⟩⟩
   rcases hs.kind with ⟨e',hk⟩|hk <;> simp [Builtin.append_,run_underlying ht,run_underlying hk,sizeOf,typeInfo,hi,hs.len,hcl]
  ·have hr:=run_append_grow_src (P:=P) w t tx ty e i z ht hi hz none 0 0 [] (run_firstCells_none w.drew i.size 0 0 0) x m news hs (by omega) (by omega) (growslice_fits (by omega) hbytes)
   have hgr:=grown 0 (by omega) (Value.ownBlock (.slice none 0 0))
   exact ⟨_,_,hr,hgr.1,hgr.2⟩
 ·by_cases hroom:n+m≤cap
  ·have hfit:n*i.size+news.length≤cur.size:=by rw [hl,hcs,← Nat.add_mul];exact Nat.mul_le_mul_right _ hroom
   have hr:=z4r (P:=P) t tx ty e i ht hi g n cap cur hg x m news hs hroom hfit
   refine ⟨_,_,hr,⟨hlen,.inr ⟨g,cap,_,rfl,hbg,setRow_heap w g cur _ e _ hg,hroom,hcm,?_,?_⟩⟩,⟨rfl,rfl,rfl,by simp,fun k _ hk=>setRow_other w g k _ (fun e=>hk (by simp [Value.ownBlock,e]))⟩⟩
   ·simp only [List.size_toArray,List.length_append,List.length_take,List.length_drop,Array.length_toList]
    omega
   ·rw [htake,← hlen]
    exact List.take_left
  ·have holds:∀ j u,xs[j]?=some u→w.drew.cell? ((⟨g,0,none⟩:Addr).add j)=some u:=hown.cells (g:=g) rfl
   have hr:=run_append_grow_src (P:=P) w t tx ty e i z ht hi hz (some ⟨g,0,none⟩) n cap xs (run_firstCells_some w.drew i.size n ⟨g,0,none⟩ n cap xs hown.1 holds) x m news hs (by omega) (by omega) (growslice_fits (by omega) hbytes)
   have hgr:=grown cap (by omega) (Value.ownBlock (.slice (some ⟨g,0,none⟩) n cap))
   exact ⟨_,_,hr,hgr.1,hgr.2⟩
theorem z8c {ops:Array Oper} {rest:List Oper} {o:Oper} {a:Act} {Q:Exit→Act→World→Prop} (hgd:o.guard=none) (s x:Operand) (t tx:TypeId)
  (ho:o.op=.call { callee:=.builtin .append,args:=#[s,x],argTypes:=#[t,tx] })
  (base:Nat) (e:TypeId) (i:TypeInfo) (z:Value) (size bytes:Nat) (ht:P.underlying t=some (.slice e)) (hi:P.info? e=some i) (hz:i.zero=some z)
  (hsize:i.size=size) (hby:i.bytes=bytes) (hzs:z.cells.size=size)
  (v:Value) (n:Nat) (xs:List Value) (hv:a.eval s=v) (hown:w.ownsRow base e size v n xs)
  (xv:Value) (m:Nat) (news:List Value) (hx:a.eval x=xv) (hs:Src P size tx xv m news w)
  (h63:n+m≤maxLen) (hbytes:(n+m)*bytes≤140737488355328) (hbase:base≤w.heap.size)
  (h:∀ v' w',w'.ownsRow base e size v' (n+m) (xs++news)→w.grownBy w' v.ownBlock→wpList P ops Q rest (a.put o.dst v') w'):wpList P ops Q (o::rest) a w:=by
 refine wpList_plain hgd fun K hK'=>?_
 obtain ⟨v',w',hr,h2,h3⟩:=run_append_from (P:=P) base t tx o.type e i z size bytes ht hi hz hsize hby hzs v n xs hown xv m news hs h63 hbytes hbase
 unfold Oper.wp execOp
 simp only [ho,resolve,invoke,builtin,Sem.run_bind,Sem.run_pure,Result.andThen_ok,List.map_toArray,List.map_cons,List.map_nil,hv,hx,hr]
 exact hK' _ _ (h v' w' h2 h3)
end
def Rd (w:World) (ao:Option Addr) (n cap:Nat) (bs:List UInt8):Prop :=
 bs.length=n∧n≤cap∧cap≤maxLen∧(ao=none→n=0∧cap=0) ∧
 (0<n→∃ b off,ao=some ⟨b,off,none⟩∧∀ i (h:i<bs.length),w.cell? ⟨b,off+i,none⟩=some (.int .u8 (bs[i].toNat:Int)))
theorem Rd.nil (w:World):Rd w none 0 0 []:=⟨rfl,Nat.le_refl _,Nat.zero_le _,fun _=>⟨rfl,rfl⟩,fun h=>by omega⟩
theorem Rd.later {w w':World} {ao:Option Addr} {n cap:Nat} {bs:List UInt8} (h:Rd w ao n cap bs) (hb:Below w.heap.size w w'):Rd w' ao n cap bs:=by
 obtain ⟨h1,h2,h3,h4,h5⟩:=h
 refine ⟨h1,h2,h3,h4,fun hn=>?_⟩
 obtain ⟨b,off,hao,hc⟩:=h5 hn
 refine ⟨b,off,hao,fun i hi=>?_⟩
 have:=hc i hi
 rw [hb.cell (p:=⟨b,off+i,none⟩) (World.block_lt_of_cell? w _ this)]
 exact this
theorem Rd.kept {w w':World} {ao:Option Addr} {n cap:Nat} {bs:List UInt8} (h:Rd w ao n cap bs) (hb:∀ b off,ao=some ⟨b,off,none⟩→b<w.heap.size→w'.heap[b]?=w.heap[b]?):Rd w' ao n cap bs:=by
 obtain ⟨h1,h2,h3,h4,h5⟩:=h
 refine ⟨h1,h2,h3,h4,fun hn=>?_⟩
 obtain ⟨b,off,hao,hc⟩:=h5 hn
 refine ⟨b,off,hao,fun i hi=>?_⟩
 have:=hc i hi
 rw [World.cell?_of_block (w:=w) (a:=⟨b,off+i,none⟩) (hb b off hao (World.block_lt_of_cell? w _ this))]
 exact this
theorem Own.rd {w:World} {base:Nat} {v:Value} {bs:List UInt8} (h:Own w base v bs) :
  ∃ ao cap,v=.slice ao bs.length cap∧Rd w ao bs.length cap bs∧(ao=none∨∃ g,ao=some ⟨g,0,none⟩∧base≤g∧g<w.heap.size∧v.ownBlock=some g):=by
 have hlt:=World.ownsRow.lt h
 obtain ⟨h1,h2⟩:=h
 rcases h2 with ⟨rfl,hn⟩|⟨g,cap,cur,rfl,hb,hg,hnc,hcm,hcs,htake⟩
 ·have:bs=[]:=List.eq_nil_of_length_eq_zero hn
  subst this
  exact ⟨none,0,rfl,Rd.nil w,.inl rfl⟩
 ·refine ⟨some ⟨g,0,none⟩,cap,rfl,⟨rfl,hnc,hcm,(fun h=>by cases h),fun _=>⟨g,0,rfl,fun i hi=>?_⟩⟩,.inr ⟨g,rfl,hb,(hlt g rfl).2,rfl⟩⟩
  rw [cell_of_row w g (0+i) cur 5 (0,0) hg]
  have e:=bv_at bs i hi
  rw [← htake,List.getElem?_take] at e
  split at e
  ·simpa using e
  ·cases e
theorem Own.later {w w':World} {base:Nat} {v:Value} {bs:List UInt8} (h:Own w base v bs) (hb:Below w.heap.size w w'):Own w' base v bs:=by
 obtain ⟨h1,h2⟩:=h
 refine ⟨h1,?_⟩
 rcases h2 with hn|⟨g,cap,cur,hv,hbg,hg,rest⟩
 ·exact .inl hn
 ·refine .inr ⟨g,cap,cur,hv,hbg,?_,rest⟩
  rw [hb.block g (Array.getElem?_eq_some_iff.1 hg).1]
  exact hg
theorem Own.more {w:World} {base base':Nat} {v:Value} {bs:List UInt8} (h:Own w base v bs) (hb:base'≤base):Own w base' v bs:=by
 obtain ⟨h1,h2⟩:=h
 refine ⟨h1,?_⟩
 rcases h2 with hn|⟨g,cap,cur,hv,hbg,rest⟩
 ·exact .inl hn
 ·exact .inr ⟨g,cap,cur,hv,by omega,rest⟩
theorem z5v {P:Program} {w:World} {ao:Option Addr} {n cap:Nat} {bs:List UInt8} (src dst e:TypeId) (hs:P.underlying src=some (.slice e)) (he:P.underlying e=some (.int .u8)) (hd:P.underlying dst=some .string)
  (h:Rd w ao n cap bs):(convert src dst (.slice ao n cap)).run P w=.ok (.string ⟨bs.toArray⟩) w:=by
 obtain ⟨rfl,h2,h3,h4,h5⟩:=h
 cases ao with
 | none =>
  obtain ⟨hn,_⟩:=h4 rfl
  have:bs=[]:=List.eq_nil_of_length_eq_zero hn
  subst this
  rw [run_convert_bytes_nil (P:=P) w src e hs he _ _ dst hd]
  rfl
 | some a =>
  refine run_convert_bytes_back w src dst e a cap bs hs he hd fun j hj=>?_
  obtain ⟨b,off,hao,hc⟩:=h5 (by omega)
  obtain rfl:=Option.some.inj hao
  rw [Addr.add_lit]
  exact hc j hj
end Go.Proofs.YtljkonkfeiojnaaGreatDoor

namespace Go.Proofs.YtljkonkfeiojnaaGreatDoor
open Go.RowKit
theorem Tryz.info5:(Tryz.prog.info? 5).map (fun i=>(i.zero,i.size,i.bytes))=some (some (.int .u8 0),1,1):=by kernel_rfl
theorem own_of {w:World} {base n:Nat} {v:Value} {bs:List UInt8} (h:w.ownsRow base 5 1 v n (bv bs)):Own w base v bs:=by
 have e:n=bs.length:=by have:=h.1;rw [bv_length] at this;omega
 unfold Own
 rw [← e]
 exact h
theorem z1y {w:World} {base n:Nat} {v:Value} {bs:List UInt8} {b:UInt8} (h:w.ownsRow base 5 1 v n (bv bs++[Value.int .u8 (b.toNat:Int)])):Own w base v (bs++[b]) :=
 own_of (bs:=bs++[b]) (by rw [bv_append];exact h)
theorem z1x (k:IntKind) (n:Int):∀ u∈[Value.int k n],u.oneCell'=true:=by
 intro u hu
 simp at hu
 subst hu
 rfl
end Go.Proofs.YtljkonkfeiojnaaGreatDoor

namespace Go.Proofs.YtljkonkfeiojnaaGreatDoor
end Go.Proofs.YtljkonkfeiojnaaGreatDoor

namespace Go.Proofs.YtljkonkfeiojnaaGreatDoor
def isL (c:UInt8):Bool:=(decide (97≤c.toNat)&&decide (c.toNat≤122)) || decide (c.toNat=95)
def isD (c:UInt8):Bool:=decide (48≤c.toNat)&&decide (c.toNat≤57)
def isB (c:UInt8):Bool:=decide (c.toNat=32) || (decide (c.toNat=9) || decide (c.toNat=10))
def isS (c:UInt8):Bool:=[40,41,44,46,59,42,43,45,47,37,61].contains c.toNat
def isW (c:UInt8):Bool:=isL c || isD c
def z7k:List UInt8→Nat
 | []=>0
 | c::l=>if isW c then z7k l+1 else 0
def digN:List UInt8→Nat
 | []=>0
 | c::l=>if isD c then digN l+1 else 0
def numN:List UInt8→Nat
 | []=>0
 | c::l=>if isD c then numN l+1 else if c=46 then digN l+1 else 0
def z4f:List UInt8→Option Nat
 | []=>none
 | c::l=>if c=39 then (match l with
   | []=>some 1
   | d::l'=>if d=39 then (z4f l').map (·+2) else some 1)
  else (z4f l).map (·+1)
def lxt:List UInt8→Nat × Nat
 | []=>(0,0)
 | c::l =>
  if isL c then (1,z7k l+1)
  else if isD c then (3,numN l+1)
  else if c=39 then (match z4f l with|none=>(0,0)|some n=>(3,n+1))
  else if c=60 then (2,if l.head?=some 62∨l.head?=some 61 then 2 else 1)
  else if c=62 then (2,if l.head?=some 61 then 2 else 1)
  else if isS c then (2,1)
  else (0,0)
theorem z7r (c:UInt8) (l:List UInt8):lxt (c::l) =
  (if isL c then (1,z7k l+1)
  else if isD c then (3,numN l+1)
  else if c=39 then (match z4f l with|none=>(0,0)|some n=>(3,n+1))
  else if c=60 then (2,if l.head?=some 62∨l.head?=some 61 then 2 else 1)
  else if c=62 then (2,if l.head?=some 61 then 2 else 1)
  else if isS c then (2,1)
  else (0,0)):=rfl
theorem textN_cons (c:UInt8) (l:List UInt8) (h:¬ c=39):z4f (c::l)=(z4f l).map (·+1):=by
 rw [z4f.eq_def];simp only [if_neg h]
theorem textN_two (l:List UInt8):z4f (39::39::l)=(z4f l).map (·+2):=by
 rw [z4f.eq_def];simp
theorem textN_end (d:UInt8) (l:List UInt8) (h:¬ d=39):z4f (39::d::l)=some 1:=by
 rw [z4f.eq_def];simp [h]
theorem textN_last:z4f [39]=some 1:=by
 rw [z4f.eq_def];simp
theorem wordN_le (l:List UInt8):z7k l≤l.length:=by
 induction l with
 | nil=>simp [z7k]
 | cons c l ih=>unfold z7k;split <;> simp;omega
theorem digN_le (l:List UInt8):digN l≤l.length:=by
 induction l with
 | nil=>simp [digN]
 | cons c l ih=>unfold digN;split <;> simp;omega
theorem numN_le (l:List UInt8):numN l≤l.length:=by
 induction l with
 | nil=>simp [numN]
 | cons c l ih =>
  unfold numN;split
  ·simp;omega
  ·split
   ·have:=digN_le l;simp;omega
   ·simp
theorem textN_le (l:List UInt8):∀ n,z4f l=some n→1≤n∧n≤l.length:=by
 induction h:l.length using Nat.strongRecOn generalizing l with
 | ind m ih =>
  intro n hn
  match l,h with
  | [],_=>simp [z4f] at hn
  | c::l,h =>
   by_cases hc:c=39
   ·subst hc
    match l,h with
    | [],h=>rw [textN_last] at hn;simp at hn h;omega
    | d::l,h =>
     by_cases hd:d=39
     ·subst hd
      rw [textN_two] at hn
      cases ht:z4f l with
      | none=>simp [ht] at hn
      | some k =>
       have:=ih l.length (by simp at h;omega) l rfl k ht
       simp [ht] at hn;simp at h;omega
     ·rw [textN_end _ _ hd] at hn;simp at hn h;omega
   ·rw [textN_cons _ _ hc] at hn
    cases ht:z4f l with
    | none=>simp [ht] at hn
    | some k =>
     have:=ih l.length (by simp at h;omega) l rfl k ht
     simp [ht] at hn;simp at h;omega
theorem head_len {l:List UInt8} {k:UInt8} (h:l.head?=some k):1≤l.length:=by
 match l,h with
 | _::_,_=>simp
theorem lxt_le (l:List UInt8):(lxt l).2≤l.length:=by
 match l with
 | []=>simp [lxt]
 | c::l =>
  have h1:=wordN_le l
  have h2:=numN_le l
  rw [z7r,List.length_cons]
  split
  ·omega
  split
  ·omega
  split
  ·split
   ·omega
   ·rename_i n hn;have:=textN_le l n hn;omega
  split
  ·show (if _ then 2 else 1)≤_
   split
   ·rename_i h
    rcases h with h|h <;> (have:=head_len h;omega)
   ·omega
  split
  ·show (if _ then 2 else 1)≤_
   split
   ·rename_i h
    have:=head_len h;omega
   ·omega
  split
  ·omega
  ·omega
theorem lxt_pos (l:List UInt8) (h:(lxt l).1≠0):1≤(lxt l).2:=by
 match l with
 | []=>simp [lxt] at h
 | c::l =>
  rw [z7r] at *
  split
  ·omega
  split
  ·omega
  split
  ·rename_i h1 h2 h3
   rw [if_neg h1,if_neg h2,if_pos h3] at h
   split
   ·rename_i hn;rw [hn] at h;exact absurd rfl h
   ·omega
  split
  ·show 1≤(if _ then 2 else 1)
   split <;> omega
  split
  ·show 1≤(if _ then 2 else 1)
   split <;> omega
  split
  ·omega
  ·rename_i h1 h2 h3 h4 h5 h6
   rw [if_neg h1,if_neg h2,if_neg h3,if_neg h4,if_neg h5,if_neg h6] at h
   exact absurd rfl h
structure Tk (V:Type) where
 k:Nat
 t:List UInt8
 v:V
 a:Nat
def tok {V:Type} (z:V) (f:List UInt8→Option V) (l:List UInt8) (i:Nat):Option (Tk V) :=
 if (lxt l).1=0 then none
 else if (lxt l).1=1 then (if (lxt l).2≤32 then some ⟨1,l.take (lxt l).2,z,i⟩ else none)
 else if (lxt l).1=3 then (match f (l.take (lxt l).2) with|none=>none|some v=>some ⟨3,l.take (lxt l).2,v,i⟩)
 else some ⟨(lxt l).1,l.take (lxt l).2,z,i⟩
theorem tok_len {V:Type} {z:V} {f:List UInt8→Option V} {l:List UInt8} {i:Nat} {x:Tk V} (h:tok z f l i=some x):x.t=l.take (lxt l).2∧x.t.length=(lxt l).2∧1≤(lxt l).2∧x.a=i∧x.k=(lxt l).1:=by
 have h1:=lxt_le l
 unfold tok at h
 split at h
 ·cases h
 rename_i h0
 have h2:=lxt_pos l h0
 split at h
 ·split at h
  ·cases h;exact ⟨rfl,by simp;omega,h2,rfl,by simp;omega⟩
  ·cases h
 split at h
 ·split at h
  ·cases h
  ·cases h;exact ⟨rfl,by simp;omega,h2,rfl,by simp;omega⟩
 ·cases h;exact ⟨rfl,by simp;omega,h2,rfl,rfl⟩
def toks {V:Type} (z:V) (f:List UInt8→Option V):Nat→List UInt8→Nat→Option (List (Tk V))
 | _,[],_=>some []
 | 0,_::_,_=>none
 | n+1,c::l,i=>if isB c then toks z f n l (i+1)
  else match tok z f (c::l) i with
   | none=>none
   | some x=>(toks z f n ((c::l).drop x.t.length) (i+x.t.length)).map (x::·)
section
variable {V:Type} {z:V} {f:List UInt8→Option V}
theorem z9v (n i:Nat):toks z f n [] i=some []:=by
 cases n <;> rfl
theorem z8a (n:Nat) (c:UInt8) (l:List UInt8) (i:Nat):toks z f (n+1) (c::l) i=if isB c then toks z f n l (i+1)
  else match tok z f (c::l) i with
   | none=>none
   | some x=>(toks z f n ((c::l).drop x.t.length) (i+x.t.length)).map (x::·):=rfl
theorem toks_fuel:∀ (n m:Nat) (l:List UInt8) (i:Nat),l.length≤n→l.length≤m→toks z f n l i=toks z f m l i:=by
 intro n
 induction n with
 | zero =>
  intro m l i hn hm
  match l,hn with
  | [],_=>rw [z9v,z9v]
 | succ n ih =>
  intro m l i hn hm
  match l,m,hn,hm with
  | [],m,_,_=>rw [z9v,z9v]
  | c::l,m+1,hn,hm =>
   rw [z8a,z8a]
   simp at hn hm
   split
   ·exact ih _ _ _ hn hm
   ·cases hx:tok z f (c::l) i with
    | none=>rfl
    | some x =>
     simp only
     obtain ⟨_,h2,h3,_⟩:=tok_len hx
     rw [ih m _ _ (by simp;omega) (by simp;omega)]
def lexL (z:V) (f:List UInt8→Option V) (l:List UInt8) (i:Nat):Option (List (Tk V)):=toks z f l.length l i
theorem lex_nil (i:Nat):lexL z f [] i=some []:=rfl
theorem lex_blank (c:UInt8) (l:List UInt8) (i:Nat) (h:isB c=true):lexL z f (c::l) i=lexL z f l (i+1):=by
 unfold lexL
 rw [List.length_cons,z8a,if_pos h]
theorem lex_tok (c:UInt8) (l:List UInt8) (i:Nat) (h:isB c=false):lexL z f (c::l) i=match tok z f (c::l) i with
   | none=>none
   | some x=>(lexL z f ((c::l).drop x.t.length) (i+x.t.length)).map (x::·):=by
 unfold lexL
 rw [List.length_cons,z8a,if_neg (by simp [h])]
 cases hx:tok z f (c::l) i with
 | none=>rfl
 | some x =>
  simp only
  obtain ⟨_,h2,h3,_⟩:=tok_len hx
  rw [toks_fuel _ _ _ _ (by simp;omega) (Nat.le_refl _)]
end
section
variable {V:Type} {z:V} {f:List UInt8→Option V}
end
def z1d:List UInt8→Nat
 | []=>0
 | c::l=>if isB c then z1d l+1 else 0
theorem blankN_le (l:List UInt8):z1d l≤l.length:=by
 induction l with
 | nil=>simp [z1d]
 | cons c l ih=>unfold z1d;split <;> simp;omega
theorem blankN_drop (l:List UInt8):z1d (l.drop (z1d l))=0:=by
 induction l with
 | nil=>rfl
 | cons c l ih =>
  by_cases h:isB c=true
  ·rw [z1d,if_pos h,List.drop_succ_cons];exact ih
  ·rw [show z1d (c::l)=0 by rw [z1d,if_neg h],List.drop_zero,z1d,if_neg h]
section
variable {V:Type} {z:V} {f:List UInt8→Option V}
theorem lex_pass (l:List UInt8):∀ i,lexL z f l i=lexL z f (l.drop (z1d l)) (i+z1d l):=by
 induction l with
 | nil=>intro i;rfl
 | cons c l ih =>
  intro i
  by_cases h:isB c=true
  ·rw [lex_blank _ _ _ h,ih,z1d,if_pos h,List.drop_succ_cons,show i+1+z1d l=i+(z1d l+1) by omega]
  ·rw [show z1d (c::l)=0 by rw [z1d,if_neg h]];rfl
theorem lex_here (l:List UInt8) (i:Nat) (h:z1d l=0) (hl:l≠[]):lexL z f l i=match tok z f l i with
   | none=>none
   | some x=>(lexL z f (l.drop x.t.length) (i+x.t.length)).map (x::·):=by
 match l,hl with
 | c::l,_ =>
  refine lex_tok c l i ?_
  cases hc:isB c with
  | false=>rfl
  | true=>rw [z1d,if_pos hc] at h;omega
end
end Go.Proofs.YtljkonkfeiojnaaGreatDoor

namespace Go.Proofs.YtljkonkfeiojnaaGreatDoor
def z3m (J:Nat→Act→World→Prop) (Q:Exit→Act→World→Prop):Exit→Act→World→Prop
 | .goto l,a,w=>J l a w
 | e,a,w=>Q e a w
theorem z1w {P:Program} {a:Act} {w:World} {Q:Exit→Act→World→Prop} {c:Code} (J:Nat→Act→World→Prop) (μ:Nat→Act→World→Nat)
  (first:c.wp P (z3m J Q) a w)
  (pass:∀ l a w,J l a w→∃ rest,findLabel c l=some rest∧rest.wp P (z3m (fun l' a' w'=>J l' a' w'∧μ l' a' w' < μ l a w) Q) a w):(Code.scope c).wp P Q a w:=by
 intro b k cs
 have key:∀ n l a w,μ l a w=n→J l a w→∃ rest,findLabel c l=some rest∧∃ e a' w',Q e a' w'∧Arrives P (lone (b.at a (.code rest::.inScope c::k)) cs w) b k cs e a' w':=by
  intro n
  induction n using Nat.strongRecOn with
  | _ n ih =>
   intro l a w hn hJ
   obtain ⟨rest,hf,hp⟩:=pass l a w hJ
   refine ⟨rest,hf,?_⟩
   obtain ⟨e,a₁,w₁,hq,harr⟩:=hp b (.inScope c::k) cs
   cases e with
   | normal=>exact ⟨.normal,a₁,w₁,hq,Steps.trans harr (.one step_inScope)⟩
   | exit id=>exact ⟨.exit id,a₁,w₁,hq,fun k' hk=>harr k' (by simp [exitTo,hk])⟩
   | goto l' =>
    obtain ⟨hJ',hlt⟩:=hq
    obtain ⟨rest',hf',e₂,a₂,w₂,hq₂,harr₂⟩:=ih _ (by omega) l' a₁ w₁ rfl hJ'
    have hg:gotoIn l' (.inScope c::k)=some (.code rest'::.inScope c::k):=by simp [gotoIn,hf']
    exact ⟨e₂,a₂,w₂,hq₂,.of_steps (harr _ hg) harr₂⟩
   | ret=>exact ⟨_,a₁,w₁,hq,harr⟩
   | panic ch=>exact ⟨_,a₁,w₁,hq,harr⟩
   | outgrown=>exact ⟨_,a₁,w₁,hq,harr⟩
 obtain ⟨e,a₁,w₁,hq,harr⟩:=first b (.inScope c::k) cs
 cases e with
 | normal=>exact ⟨.normal,a₁,w₁,hq,.head step_scope (Steps.trans harr (.one step_inScope))⟩
 | exit id=>exact ⟨.exit id,a₁,w₁,hq,fun k' hk=>.head step_scope (harr k' (by simp [exitTo,hk]))⟩
 | goto l' =>
  obtain ⟨rest',hf',e₂,a₂,w₂,hq₂,harr₂⟩:=key _ l' a₁ w₁ rfl hq
  have hg:gotoIn l' (.inScope c::k)=some (.code rest'::.inScope c::k):=by simp [gotoIn,hf']
  exact ⟨e₂,a₂,w₂,hq₂,.of_steps (.head step_scope (harr _ hg)) harr₂⟩
 | ret=>exact ⟨_,a₁,w₁,hq,.of_steps (.one step_scope) harr⟩
 | panic ch=>exact ⟨_,a₁,w₁,hq,.of_steps (.one step_scope) harr⟩
 | outgrown=>exact ⟨_,a₁,w₁,hq,.of_steps (.one step_scope) harr⟩
end Go.Proofs.YtljkonkfeiojnaaGreatDoor
