/-
  Tokens as they lie in memory; the contract of lexer.tokenAt.
  The contract of expr.Depth, over contracts of operands and mayBe.
  Lists of the document's nodes that come in; texts in them are no longer than what can be reached.
  The contract of lexer.Split: the tokens of any text.
  The contracts of lexer.Word and lexer.Right; tokens of whatever parts.
  The contracts of mayBe, fits, isLiteral, isName and Right of package expr.
  The reader of expressions: its cells, what changes in memory, and the smallest of its methods.
  The reader of expressions: its state, and the methods pass and took.
  The reader of expressions: put.
  How tokens are read into nodes, as a function: with no program in it but what a node, a token and a sign are.
  The reader of expressions: steps, parts that are parted by the signs of ops.
  The reader of expressions: within, a part that stands within one more of what can be open.
  The reader of expressions: expression, andPart, sum, term, notPart, comparison, nullBehindIs, enclosed, ended, each over what it calls.
  The reader of expressions: arguments, the closure of call, within at it, and call.
  The reader of expressions: columnOrCall, unit, and all parts of the grammar together.
  The reader of expressions: unit, and all parts of the grammar together, by induction on what is left to read.
  The contract of expr.Read.
  Names of nodes that came in are not too long.
  The document's Reserved, Free and literal.
  The document's literal and operands of a node.
-/
import Derived.Test.YtibbenhplmmmiaaGreatDoorMwLByte
import Derived.Test.YtibbenhplmmmiaaGreatDoorLTold
import Derived.Deep.RegionWith
import Derived.Test.YtibbenhplmmmiaaGreatDoorMvVOrd1
import Derived.Deep.AppendLies
import Derived.BigRegion
import Derived.Deep.RegionHeld2
import Derived.Test.YtibbenhplmmmiaaGreatDoorMfDDivP
set_option maxHeartbeats 4000000
set_option maxRecDepth 100000
namespace Go.Proofs.YtibbenhplmmmiaaGreatDoor
open Go.RowKit Go.Shelf
attribute [local go_sem] z0e z0b z0c z0f z0m z0k z0h z0d z0g
def Cbox (w:World) (p:Nat) (cs:Array Value) (ty:TypeId):Prop:=w.heap[p]?=some (.cells cs ty (0,0))
theorem Cbox.lt {w:World} {p:Nat} {cs:Array Value} {ty:TypeId} (h:Cbox w p cs ty):p<w.heap.size:=by
 by_cases hp:p<w.heap.size
 ·exact hp
 ·unfold Cbox at h
  rw [Array.getElem?_eq_none (by omega)] at h
  cases h
theorem Cbox.later {w w':World} {p:Nat} {cs:Array Value} {ty:TypeId} (h:Cbox w p cs ty) (hb:Below w.heap.size w w'):Cbox w' p cs ty:=by
 unfold Cbox
 rw [hb.block p h.lt]
 exact h
theorem Cbox.at {w:World} {p:Nat} {cs:Array Value} {ty:TypeId} (h:Cbox w p cs ty) (j:Nat):w.cell? ⟨p,j,none⟩=cs[j]?:=cell_of_row w p j _ _ (0,0) h
theorem Cbox.free {w:World} {p:Nat} {cs:Array Value} {ty:TypeId} (h:Cbox w p cs ty) (j:Nat):w.frozen? ⟨p,j,none⟩=false:=by
 unfold Cbox at h
 simp [World.frozen?,h]
theorem Cbox.new (w:World) (cs:Array Value) (ty:TypeId):Cbox (w.alloc (.cells cs ty)) w.heap.size cs ty:=by
 unfold Cbox
 show (w.heap.push _)[w.heap.size]?=_
 simp
end Go.Proofs.YtibbenhplmmmiaaGreatDoor

namespace Go.Proofs.YtibbenhplmmmiaaGreatDoor
open Go.RowKit
attribute [local go_sem] z0e z0b z0c z0f z0m z0k z0h z0d z0g
def N8 (w:World) (b o:Nat) (x:Nd):Prop :=
 w.cell? ⟨b,o,none⟩=some (.int .i64 x.o)∧w.cell? ⟨b,o+1,none⟩=some (.string ⟨x.t.toArray⟩)∧w.cell? ⟨b,o+2,none⟩=some (.string ⟨x.n.toArray⟩)∧w.cell? ⟨b,o+3,none⟩=some (.int .i64 x.v.k)∧w.cell? ⟨b,o+4,none⟩=some (.int .i64 x.v.n) ∧
  w.cell? ⟨b,o+5,none⟩=some (.int .i64 x.v.m)∧w.cell? ⟨b,o+6,none⟩=some (.string ⟨x.v.b.toArray⟩)∧w.cell? ⟨b,o+7,none⟩=some (.int .i64 x.a)
theorem N8.lt {w:World} {b o:Nat} {x:Nd} (h:N8 w b o x):b<w.heap.size:=World.block_lt_of_cell? w _ h.1
theorem N8.later {w w':World} {b o:Nat} {x:Nd} (h:N8 w b o x) (hb:Below w.heap.size w w'):N8 w' b o x:=by
 have hl:=h.lt
 obtain ⟨h0,h1,h2,h3,h4,h5,h6,h7⟩:=h
 exact ⟨(hb.cell (p:=⟨b,o,none⟩) hl).trans h0,(hb.cell (p:=⟨b,o+1,none⟩) hl).trans h1,(hb.cell (p:=⟨b,o+2,none⟩) hl).trans h2,(hb.cell (p:=⟨b,o+3,none⟩) hl).trans h3,(hb.cell (p:=⟨b,o+4,none⟩) hl).trans h4,(hb.cell (p:=⟨b,o+5,none⟩) hl).trans h5,(hb.cell (p:=⟨b,o+6,none⟩) hl).trans h6,(hb.cell (p:=⟨b,o+7,none⟩) hl).trans h7⟩
def Nw (w:World) (ao:Option Addr) (l:List Nd):Prop :=
 0<l.length→∃ b off,ao=some ⟨b,off,none⟩∧∀ i (h:i<l.length),N8 w b (off+i*8) l[i]
theorem Nw.later {w w':World} {ao:Option Addr} {l:List Nd} (h:Nw w ao l) (hb:Below w.heap.size w w'):Nw w' ao l:=by
 intro hp
 obtain ⟨b,off,e,hc⟩:=h hp
 exact ⟨b,off,e,fun i hi=>(hc i hi).later hb⟩
def maxD (ds:List Nat):Nat:=ds.foldl (fun m d=>max m (d+1)) 1
def stepD (may:Nd→Bool) (st:List Nat) (x:Nd):Option (List Nat) :=
 if may x=true∧opsN x≤(st.length:Int) then some (st.take (st.length - (opsN x).toNat)++[maxD (st.drop (st.length - (opsN x).toNat))]) else none
def runD (may:Nd→Bool):List Nd→List Nat→Option (List Nat)
 | [],st=>some st
 | x::l,st=>match stepD may st x with|none=>none|some st'=>runD may l st'
def depO (r:Option (List Nat)):Nat:=match r with|some [d]=>if d≤16 then d else 0|_=>0
def depN (may:Nd→Bool) (l:List Nd):Nat:=if l.length≤256 then depO (runD may l []) else 0
def iv (ds:List Nat):List Value:=ds.map fun (d:Nat)=>.int .i64 (d:Int)
theorem iv_len (ds:List Nat):(iv ds).length=ds.length:=by simp [iv]
abbrev Ks (w:World) (base:Nat) (v:Value) (ds:List Nat):Prop:=w.ownsRow base 3 1 v ds.length (iv ds)
theorem Ks.shape {w:World} {base:Nat} {v:Value} {ds:List Nat} (h:Ks w base v ds) :
  ∃ ao cap,v=.slice ao ds.length cap∧ds.length≤cap∧(ao=none→ds=[]∧cap=0)∧(∀ f,f≤ds.length→Ks w base (.slice ao f cap) (ds.take f))∧(∀ a,ao=some a→∃ g,a=⟨g,0,none⟩∧base≤g∧g<w.heap.size∧∀ i (h:i<ds.length),w.cell? ⟨g,i,none⟩=some (.int .i64 (ds[i]:Int))):=by
 obtain ⟨h1,h2⟩:=h
 rcases h2 with ⟨rfl,hn⟩|⟨g,cap,cur,rfl,hb,hg,hnc,hcm,hcs,htake⟩
 ·have:ds=[]:=List.length_eq_zero_iff.1 hn
  subst this
  exact ⟨none,0,rfl,Nat.le_refl _,fun _=>⟨rfl,rfl⟩,fun f hf=>by simp at hf;subst hf;exact World.ownsRow_nil _ _ _ _,fun a ha=>by cases ha⟩
 ·refine ⟨some ⟨g,0,none⟩,cap,rfl,hnc,(fun h=>by cases h),fun f hf=>?_,fun a ha=>?_⟩
  ·have e:(ds.take f).length=f:=by rw [List.length_take];omega
   show w.ownsRow base _ 1 _ (ds.take f).length _
   rw [e]
   refine ⟨by rw [iv_len,e,Nat.mul_one],.inr ⟨g,cap,cur,rfl,hb,hg,by omega,hcm,hcs,?_⟩⟩
   rw [Nat.mul_one] at htake ⊢
   have:cur.toList.take f=(cur.toList.take ds.length).take f:=by rw [List.take_take,Nat.min_eq_left hf]
   rw [this,htake]
   simp [iv,List.map_take]
  ·cases ha
   have hlt:g<w.heap.size:=by
    rcases Nat.lt_or_ge g w.heap.size with h|h
    ·exact h
    ·rw [Array.getElem?_eq_none h] at hg;cases hg
   refine ⟨g,rfl,hb,hlt,fun i hi=>?_⟩
   have hc:=cell_of_row w g i cur _ (0,0) hg
   rw [hc]
   have h3:cur[i]?=(cur.toList.take (ds.length*1))[i]?:=by
    rw [List.getElem?_take,if_pos (by omega)];simp
   rw [h3,htake]
   simp [iv,hi]
theorem maxD_le_aux (ds:List Nat) (k:Nat) (h:∀ d∈ds,d≤k):∀ m,m≤k+1→ds.foldl (fun m d=>max m (d+1)) m≤k+1:=by
 induction ds with
 | nil=>intro m hm;exact hm
 | cons d ds ih =>
  intro m hm
  have:=h d (by simp)
  exact ih (fun x hx=>h x (by simp [hx])) _ (Nat.max_le.2 ⟨hm,by omega⟩)
theorem maxD_le (ds:List Nat) (k:Nat) (h:∀ d∈ds,d≤k):maxD ds≤k+1:=maxD_le_aux ds k h 1 (by omega)
theorem Ks.push' {w:World} {base n d:Nat} {v:Value} {ds:List Nat} (hl:ds.length=n) (h:w.ownsRow base 3 1 v (n+1) (iv ds++[.int .i64 (d:Int)])):Ks w base v (ds++[d]):=by
 subst hl
 show w.ownsRow _ _ _ _ (ds++[d]).length (iv (ds++[d]))
 have e1:(ds++[d]).length=ds.length+1:=by simp
 have e2:iv (ds++[d])=iv ds++[.int .i64 (d:Int)]:=by simp [iv]
 rw [e1,e2]
 exact h
theorem Ks.push {w:World} {base d:Nat} {v:Value} {ds:List Nat} (h:w.ownsRow base 3 1 v (ds.length+1) (iv ds++[.int .i64 (d:Int)])):Ks w base v (ds++[d]):=Ks.push' rfl h
theorem infoInt:(Tryz.prog.info? 3).map (fun i=>(i.zero,i.size,i.bytes))=some (some (.int .i64 0),1,8):=by kernel_rfl
theorem cst1 (k:Nat):(k:Int)+1=((k+1:Nat):Int):=by omega
theorem Ks.later {w w':World} {base:Nat} {v:Value} {ds:List Nat} (h:Ks w base v ds) (hb:Below w.heap.size w w'):Ks w' base v ds :=
 World.ownsRow.kept (row:=none) h ⟨hb.os,hb.tape,hb.output,hb.size,fun k hk _=>hb.block k hk⟩ (by
  cases hv:v.ownBlock with
  | none=>exact .inl rfl
  | some k=>exact .inr (by simp))
theorem depth_any (may:Nd→Bool) (ao:Option Addr) (cap:Nat) (l:List Nd) (w:World) (hv:Nw w ao l) (hn:l.length≤140737488351232)
  (hops:∀ x,may x=true→0≤opsN x∧opsN x≤4)
  (M:∀ x∈l,∀ W,Below w.heap.size w W→Calls Tryz.prog 183 #[ndv x] W fun e w'=>e=.returned (.bool (may x))∧Below W.heap.size W w') :
  Calls Tryz.prog 113 #[.slice ao l.length cap] w fun e w'=>e=.returned (.int .i64 (depN may l:Int))∧Below w.heap.size w w':=by
 obtain ⟨i0,hi,hz0,hz1,hz2⟩:=info_parts infoInt
 have O:=fun x W=>operands_any x W
 by_cases hl:l.length≤256
 case neg =>
  have hl':(256:Int)<(l.length:Int):=by omega
  unfold depN
  rw [if_neg hl]
  go_enter Tryz.func113,Tryz.ntmps113
  go_wp2
  go_ret
  exact ⟨rfl,Below.refl _ _⟩
 have hl':¬ (256:Int)<(l.length:Int):=by omega
 unfold depN
 rw [if_pos hl]
 obtain ⟨R,hR⟩:∃ R,R=runD may l []:=⟨_,rfl⟩
 rw [← hR]
 have HR:Hid (R=runD may (l.drop 0) []):=hR
 clear hR
 obtain ⟨n,hnn⟩:∃ n,l.length=n:=⟨_,rfl⟩
 rw [hnn] at hn hl hl' ⊢
 have HN:Hid (l.length=n):=hnn
 clear hnn
 go_enter Tryz.func113,Tryz.ntmps113
 go_wp2
 go_loopw [3,15] (fun r3 r15 wr=>∃ (k:Nat) (st:List Nat),r15=.int .i64 (k:Int)∧k≤n∧st.length≤k∧(∀ d∈st,d≤k)∧Ks wr w.heap.size r3 st∧Below w.heap.size w wr∧Hid (R=runD may (l.drop k) st)) (fun _ r _=>n - (intOf r).toNat)
 case atStart=>exact ⟨0,[],rfl,Nat.zero_le _,Nat.zero_le _,(fun d h=>by cases h),World.ownsRow_nil _ _ _ _,Below.refl _ _,HR⟩
 case round =>
  obtain ⟨k,st,rfl,hk,hst,hsd,ho,hb,hH⟩:=hrel
  have sB:=hb.size
  obtain ⟨so,sc,rfl,hsc,hsn,hcut,hcell⟩:=ho.shape
  by_cases hlt:k<n
  ·have hlt':(k:Int)<(n:Int):=by omega
   have hkl:k<l.length:=by rw [HN.out];exact hlt
   obtain ⟨b,off,rfl,hc⟩:=hv (by omega)
   obtain ⟨c0,c1,c2,c3,c4,c5,c6,c7⟩:=((hc k (by omega)).later hb)
   have hg:=(hc k (by omega)).lt
   have hg':b<wr.heap.size:=by omega
   have hdr:l.drop k=l[k]::l.drop (k+1):=List.drop_eq_getElem_cons hkl
   obtain ⟨x,he⟩:∃ x:Nd,x=l[k]:=⟨_,rfl⟩
   rw [← he] at c0 c1 c2 c3 c4 c5 c6 c7 hdr
   have Ox:=fun W=>O x W
   have Mx:=fun W h=>M x (by rw [he];exact List.getElem_mem _) W h
   have hox:=hops x
   have HH:Hid (R=match stepD may st x with|none=>none|some st'=>runD may (l.drop (k+1)) st'):=by
    show R=_
    rw [hH.out,hdr];rfl
   clear hc he O M hops hH HR hdr
   obtain ⟨m,hm⟩:∃ m,may x=m:=⟨_,rfl⟩
   rw [hm] at Mx hox
   have hlen:((st.length:Nat):Int)≤256:=by omega
   cases m with
   | false =>
    have HF:Hid (depO R=0):=by
     show depO R=0
     rw [HH.out]
     unfold stepD
     rw [hm,if_neg (by simp)]
     rfl
    clear HH hm hox hcut hcell ho hsn
    obtain ⟨xo,xt,xn,xv,xa⟩:=x
    have A1:Below w.heap.size w (wr.alloc (.cells (ncs ⟨xo,xt,xn,xv,xa⟩) 99)):=hb.alloc sB _
    go_wp2_with (first
     | (go_at_call 182;refine (Ox _).mono ?_;rintro e w1 ⟨rfl,g1⟩;have b1:=g1.below;have Z:=(Cbox.new wr (ncs ⟨xo,xt,xn,xv,xa⟩) 99).later b1;have z0:=Z.at 0;have z1:=Z.at 1;have z2:=Z.at 2;have z3:=Z.at 3;have z4:=Z.at 4;have z5:=Z.at 5;have z6:=Z.at 6;have z7:=Z.at 7;have zl:=Z.lt;have B1:Below w.heap.size w w1:=A1.trans (b1.mono A1.size);clear g1 Z)
     | (go_at_call 183;refine (Mx _ B1).mono ?_;rintro e w2 ⟨rfl,b2⟩;have B2:=z0a B1 b2))
    go_ret
    exact ⟨by rw [HF.out];rfl,B2⟩
   | true =>
    obtain ⟨ho0,ho4⟩:=hox rfl
    obtain ⟨q,hq⟩:∃ q:Nat,opsN x=(q:Int):=⟨(opsN x).toNat,by omega⟩
    rw [hq] at Ox ho4
    by_cases hqs:q≤st.length
    case neg =>
     have HF:Hid (depO R=0):=by
      show depO R=0
      rw [HH.out]
      unfold stepD
      rw [hq,if_neg (by intro h;omega)]
      rfl
     have hfr:(st.length:Int) - (q:Int)<0:=by omega
     clear HH hm hq hox hcut hcell ho hsn ho0
     obtain ⟨xo,xt,xn,xv,xa⟩:=x
     have A1:Below w.heap.size w (wr.alloc (.cells (ncs ⟨xo,xt,xn,xv,xa⟩) 99)):=hb.alloc sB _
     go_wp2_with (first
      | (go_at_call 182;refine (Ox _).mono ?_;rintro e w1 ⟨rfl,g1⟩;have b1:=g1.below;have Z:=(Cbox.new wr (ncs ⟨xo,xt,xn,xv,xa⟩) 99).later b1;have z0:=Z.at 0;have z1:=Z.at 1;have z2:=Z.at 2;have z3:=Z.at 3;have z4:=Z.at 4;have z5:=Z.at 5;have z6:=Z.at 6;have z7:=Z.at 7;have zl:=Z.lt;have B1:Below w.heap.size w w1:=A1.trans (b1.mono A1.size);clear g1 Z)
      | (go_at_call 183;refine (Mx _ B1).mono ?_;rintro e w2 ⟨rfl,b2⟩;have B2:=z0a B1 b2))
     go_ret
     exact ⟨by rw [HF.out];rfl,B2⟩
    ·obtain ⟨f,hf⟩:∃ f:Nat,f=st.length - q:=⟨_,rfl⟩
     have hfr:(st.length:Int) - (q:Int)=(f:Int):=by omega
     have hfl:f≤st.length:=by omega
     have hf0:¬ ((f:Nat):Int)<0:=by omega
     have HS:Hid (R=runD may (l.drop (k+1)) (st.take f++[maxD (st.drop f)])):=by
      show R=_
      rw [HH.out]
      unfold stepD
      rw [hm,hq,if_pos ⟨rfl,by omega⟩,Int.toNat_natCast,← hf]
     clear HH hm hq hox hf ho0
     have hmax:=maxD_le (st.drop f) k (fun d hd=>hsd d (List.mem_of_mem_drop hd))
     have hsl:Hid (st.length=f+q):=by show st.length=f+q;omega
     by_cases hq0:q=0
     ·subst hq0
      have hfe:f=st.length:=by omega
      subst hfe
      have HS2:Hid (R=runD may (l.drop (k+1)) (st++[1])):=by
       show R=_
       rw [HS.out,List.take_length,List.drop_length];rfl
      clear hfr HS hsl hmax hfl hqs
      obtain ⟨xo,xt,xn,xv,xa⟩:=x
      have A1:Below w.heap.size w (wr.alloc (.cells (ncs ⟨xo,xt,xn,xv,xa⟩) 99)):=hb.alloc sB _
      go_wp2_with (first
       | (go_at_call 182;refine (Ox _).mono ?_;rintro e w1 ⟨rfl,g1⟩;have b1:=g1.below;have Z:=(Cbox.new wr (ncs ⟨xo,xt,xn,xv,xa⟩) 99).later b1;have z0:=Z.at 0;have z1:=Z.at 1;have z2:=Z.at 2;have z3:=Z.at 3;have z4:=Z.at 4;have z5:=Z.at 5;have z6:=Z.at 6;have z7:=Z.at 7;have zl:=Z.lt;have B1:Below w.heap.size w w1:=A1.trans (b1.mono A1.size);clear g1 Z)
       | (go_at_call 183;refine (Mx _ B1).mono ?_;rintro e w2 ⟨rfl,b2⟩;have B2:=z0a B1 b2))
      ·(
       try subst h
       have B12:Below wr.heap.size wr w2:=z0a (z0a ((Below.refl _ wr).alloc (Nat.le_refl _) _) b1) b2
       have s2:=B2.size
       have ho2:Hid (Ks w2 w.heap.size (.slice so st.length st.length) (st.take st.length)):=Ks.later (hcut st.length (Nat.le_refl _)) B12
       clear hcut hsn
       go_loopw [7,35] (fun r7 r35 wi=>r7=.int .i64 1∧r35=.int .i64 0∧w2=wi) (fun _ _ _=>0)
       case atStart=>exact ⟨rfl,rfl,rfl⟩
       case round =>
        obtain ⟨rfl,rfl,rfl⟩:=hrel
        have hlk:(st.take st.length).length=st.length:=by rw [List.length_take];omega
        have ho3:w2.ownsRow w.heap.size 3 1 (.slice so st.length st.length) st.length (iv (st.take st.length)):=by have:=ho2.out;unfold Ks at this;rw [hlk] at this;exact this
        have HLK:Hid ((st.take st.length).length=st.length):=hlk
        have hrow:Hid (∀ g,(Value.slice so st.length st.length).ownBlock=some g→w.heap.size≤g):=fun g h=>(World.ownsRow.lt ho3 g h).1
        clear hlk ho2 hcell ho
        go_wp2_with (at_builtin;refine wpList_append_own _ rfl _ _ 197 rfl w.heap.size 3 i0 (.int .i64 0) 1 8 Tryz.underlying197 hi hz0 hz1 hz2 rfl (by decide) _ _ _ rfl (World.ownsRow.alloc ho3 _) ⟨w2.heap.size,0,none⟩ 1 1 [.int .i64 (1:Int)] rfl rfl (cell_one_new _ _ _) (z5q _ _) (by unfold maxLen;omega) (by omega) (by simp;omega) ?_)
        intro v3 w3 ho4 hgrow3 _
        have B3:Below w.heap.size w w3:=(B2.alloc (by omega) _).grown hgrow3 (by simp;omega) hrow.out
        clear hgrow3 ho3
        go_wp2
        refine ⟨⟨k+1,st++[1],by rw [cst1],by omega,by simp;omega,?_,Ks.push ho4,B3,HS2⟩,by simp [intOf];omega⟩
        intro d hd
        rcases List.mem_append.1 hd with hd|hd
        ·exact Nat.le_succ_of_le (hsd d hd)
        ·simp at hd;omega)
      ·(
       have B12:Below wr.heap.size wr w2:=z0a (z0a ((Below.refl _ wr).alloc (Nat.le_refl _) _) b1) b2
       have s2:=B2.size
       have ho2:Hid (Ks w2 w.heap.size (.slice so st.length sc) (st.take st.length)):=Ks.later (hcut st.length (Nat.le_refl _)) B12
       clear hcut hsn
       go_loopw [7,35] (fun r7 r35 wi=>r7=.int .i64 1∧r35=.int .i64 0∧w2=wi) (fun _ _ _=>0)
       case atStart=>exact ⟨rfl,rfl,rfl⟩
       case round =>
        obtain ⟨rfl,rfl,rfl⟩:=hrel
        have hlk:(st.take st.length).length=st.length:=by rw [List.length_take];omega
        have ho3:w2.ownsRow w.heap.size 3 1 (.slice so st.length sc) st.length (iv (st.take st.length)):=by have:=ho2.out;unfold Ks at this;rw [hlk] at this;exact this
        have HLK:Hid ((st.take st.length).length=st.length):=hlk
        have hrow:Hid (∀ g,(Value.slice so st.length sc).ownBlock=some g→w.heap.size≤g):=fun g h=>(World.ownsRow.lt ho3 g h).1
        clear hlk ho2 hcell ho
        go_wp2_with (at_builtin;refine wpList_append_own _ rfl _ _ 197 rfl w.heap.size 3 i0 (.int .i64 0) 1 8 Tryz.underlying197 hi hz0 hz1 hz2 rfl (by decide) _ _ _ rfl (World.ownsRow.alloc ho3 _) ⟨w2.heap.size,0,none⟩ 1 1 [.int .i64 (1:Int)] rfl rfl (cell_one_new _ _ _) (z5q _ _) (by unfold maxLen;omega) (by omega) (by simp;omega) ?_)
        intro v3 w3 ho4 hgrow3 _
        have B3:Below w.heap.size w w3:=(B2.alloc (by omega) _).grown hgrow3 (by simp;omega) hrow.out
        clear hgrow3 ho3
        go_wp2
        refine ⟨⟨k+1,st++[1],by rw [cst1],by omega,by simp;omega,?_,Ks.push ho4,B3,HS2⟩,by simp [intOf];omega⟩
        intro d hd
        rcases List.mem_append.1 hd with hd|hd
        ·exact Nat.le_succ_of_le (hsd d hd)
        ·simp at hd;omega)
     ·have hne:¬ sc=f:=by omega
      have hso:so≠none:=by intro h;have:=(hsn h).1;subst this;simp at hqs;omega
      obtain ⟨ad,rfl⟩:=Option.ne_none_iff_exists'.1 hso
      obtain ⟨g,rfl,hgb,hgl,hcl⟩:=hcell ad rfl
      clear hcell hso hsn
      have hf3:(st.length:Int) - (f:Int)=(q:Int):=by omega
      have hf4:st.length - f=q:=by omega
      have hf5:((st.length - f:Nat):Int)=(q:Int):=by omega
      obtain ⟨xo,xt,xn,xv,xa⟩:=x
      have A1:Below w.heap.size w (wr.alloc (.cells (ncs ⟨xo,xt,xn,xv,xa⟩) 99)):=hb.alloc sB _
      go_wp2_with (first
       | (go_at_call 182;refine (Ox _).mono ?_;rintro e w1 ⟨rfl,g1⟩;have b1:=g1.below;have Z:=(Cbox.new wr (ncs ⟨xo,xt,xn,xv,xa⟩) 99).later b1;have z0:=Z.at 0;have z1:=Z.at 1;have z2:=Z.at 2;have z3:=Z.at 3;have z4:=Z.at 4;have z5:=Z.at 5;have z6:=Z.at 6;have z7:=Z.at 7;have zl:=Z.lt;have B1:Below w.heap.size w w1:=A1.trans (b1.mono A1.size);clear g1 Z)
       | (go_at_call 183;refine (Mx _ B1).mono ?_;rintro e w2 ⟨rfl,b2⟩;have B2:=z0a B1 b2))
      have B12:Below wr.heap.size wr w2:=z0a (z0a ((Below.refl _ wr).alloc (Nat.le_refl _) _) b1) b2
      have s2:=B2.size
      have hg2:g<w2.heap.size:=Nat.lt_of_lt_of_le hgl B12.size
      have ho2:Hid (Ks w2 w.heap.size (.slice (some ⟨g,0,none⟩) f sc) (st.take f)):=Ks.later (hcut f hfl) B12
      have HC:Hid (∀ i (h:i<st.length),w2.cell? ⟨g,i,none⟩=some (.int .i64 (st[i]:Int))):=fun i h=>(B12.cell (p:=⟨g,i,none⟩) hgl).trans (hcl i h)
      clear hcut hcl ho
      go_loopw [7,35] (fun r7 r35 wi=>∃ i:Nat,r35=.int .i64 (i:Int)∧r7=.int .i64 ((maxD ((st.drop f).take i):Nat):Int)∧i≤q∧w2=wi) (fun _ r _=>q - (intOf r).toNat)
      case atStart=>exact ⟨0,rfl,rfl,Nat.zero_le _,rfl⟩
      case round =>
       obtain ⟨i,rfl,rfl,hiq,rfl⟩:=hrel
       by_cases hi2:i<q
       ·have hi':(i:Int)<(q:Int):=by omega
        have i0':(0:Int)≤(i:Int):=by omega
        have hc1:=HC.out (f+i) (by omega)
        have hstep:maxD ((st.drop f).take (i+1))=max (maxD ((st.drop f).take i)) (st[f+i]'(by omega)+1):=by
         rw [List.take_succ_eq_append_getElem (by rw [List.length_drop];omega)]
         unfold maxD
         rw [List.foldl_append,List.getElem_drop]
         rfl
        have hle:=hsd (st[f+i]'(by omega)) (List.getElem_mem _)
        have hle2:=maxD_le ((st.drop f).take i) k (fun d hd=>hsd d (List.mem_of_mem_drop (List.mem_of_mem_take hd)))
        generalize st[f+i]'(by omega)=e at hc1 hstep hle
        have HST:Hid (((maxD ((st.drop f).take (i+1)):Nat):Int)=max ((maxD ((st.drop f).take i):Nat):Int) ((e:Int)+1)):=by
         show _=_
         rw [hstep];omega
        clear hstep
        generalize maxD ((st.drop f).take i)=d at *
        go_wp2
        exact ⟨⟨i+1,by rw [cst1],by rw [HST.out],by omega,by trivial⟩,by simp [intOf];omega⟩
       ·have hi':¬ (i:Int)<(q:Int):=by omega
        have hieq:i=q:=by omega
        have HE:Hid (maxD ((st.drop f).take i)=maxD (st.drop f)):=by
         show _=_
         rw [List.take_of_length_le (by rw [List.length_drop];omega)]
        have hle2:=hmax
        obtain ⟨D,hD⟩:∃ D,D=maxD (st.drop f):=⟨_,rfl⟩
        rw [HE.out]
        rw [← hD] at HS hle2 ⊢
        clear hD HE hmax HC
        have hlk:(st.take f).length=f:=by rw [List.length_take];omega
        have ho3:w2.ownsRow w.heap.size 3 1 (.slice (some ⟨g,0,none⟩) f sc) f (iv (st.take f)):=by have:=ho2.out;unfold Ks at this;rw [hlk] at this;exact this
        have HLK:Hid ((st.take f).length=f):=hlk
        have hrow:Hid (∀ q,(Value.slice (some ⟨g,0,none⟩) f sc).ownBlock=some q→w.heap.size≤q):=fun q h=>(World.ownsRow.lt ho3 q h).1
        clear hlk ho2
        go_wp2_with (at_builtin;refine wpList_append_own _ rfl _ _ 197 rfl w.heap.size 3 i0 (.int .i64 0) 1 8 Tryz.underlying197 hi hz0 hz1 hz2 rfl (by decide) _ _ _ rfl (World.ownsRow.alloc ho3 _) ⟨w2.heap.size,0,none⟩ 1 1 [.int .i64 (D:Int)] rfl rfl (cell_one_new _ _ _) (z5q _ _) (by unfold maxLen;omega) (by omega) (by simp;omega) ?_)
        intro v3 w3 ho4 hgrow3 _
        have B3:Below w.heap.size w w3:=(B2.alloc (by omega) _).grown hgrow3 (by simp;omega) hrow.out
        clear hgrow3 ho3
        go_wp2
        refine ⟨⟨k+1,st.take f++[D],by rw [cst1],by omega,by rw [List.length_append,HLK.out];simp;omega,?_,Ks.push' HLK.out ho4,B3,HS⟩,by simp [intOf];omega⟩
        intro d hd
        rcases List.mem_append.1 hd with hd|hd
        ·exact Nat.le_succ_of_le (hsd d (List.mem_of_mem_take hd))
        ·simp at hd;omega
  ·have hlt':¬ (k:Int)<(n:Int):=by omega
   have hkn:k=n:=by omega
   have HF:Hid (R=some st):=by
    show R=_
    rw [hH.out,List.drop_eq_nil_of_le (by rw [HN.out];omega)];rfl
   clear hH HR
   by_cases h1:st.length=1
   ·obtain ⟨d,rfl⟩:=List.length_eq_one_iff.1 h1
    have hso:so≠none:=by intro h;have:=(hsn h).1;simp at this
    obtain ⟨ad,rfl⟩:=Option.ne_none_iff_exists'.1 hso
    obtain ⟨g,rfl,hgb,hgl,hcl⟩:=hcell ad rfl
    have hc0:=hcl 0 (by simp)
    simp only [List.getElem_cons_zero] at hc0
    have hsc1:(0:Int)<((1:Nat):Int):=by omega
    clear hcut hcell hsn ho hcl hsd
    simp only [List.length_cons,List.length_nil,Nat.zero_add]
    by_cases hd:d≤16
    ·have hd':¬ (16:Int)<(d:Int):=by omega
     have HF2:Hid (depO R=d):=by
      show depO R=d
      rw [HF.out];unfold depO;simp [hd]
     go_wp2
     go_ret
     exact ⟨by rw [HF2.out];rfl,hb⟩
    ·have hd':(16:Int)<(d:Int):=by omega
     have HF2:Hid (depO R=0):=by
      show depO R=0
      rw [HF.out];unfold depO;simp [hd]
     go_wp2
     go_ret
     exact ⟨by rw [HF2.out];rfl,hb⟩
   ·have h1':((st.length:Int)==1)=false:=by rw [beq_eq_false_iff_ne];omega
    have HF2:Hid (depO R=0):=by
     show depO R=0
     rw [HF.out]
     match st,h1 with
     | [],_=>rfl
     | [d],h=>simp at h
     | a::b::c,_=>rfl
    clear hcut hcell hsn ho hsd HF
    generalize st.length=m at *
    go_wp2
    go_ret
    exact ⟨by rw [HF2.out];rfl,hb⟩
end Go.Proofs.YtibbenhplmmmiaaGreatDoor

namespace Go.Proofs.YtibbenhplmmmiaaGreatDoor
open Go.ChangeShapes Go.WideShapes Go.ChangeAt Go.WideMaps Go.WideElems Go.RowKit Go.Shelf Go.Lib
theorem trod_struct5 {H:Type} {enc:TypeId × Value→H} {P:Program} {w:World} {base:Nat} {spare:Nat→Bool} {held:Bool} {t:TypeId} {f0 f1 f2 f3 f4:Field} {fuel:Nat} {cs:List Value} {x:DataW H × List MemPlace} (ht:P.underlying t=some (.struct #[f0,f1,f2,f3,f4])) (h:DataW.trod enc P w base spare held fuel t cs=some x) :
  ∃ y0 y1 y2 y3 y4 n,x.1=.agg [y0.1,y1.1,y2.1,y3.1,y4.1]∧cs.length=P.cellsOf t∧DataW.trod enc P w base spare held n f0.type ((cs.drop f0.offset).take (P.cellsOf f0.type))=some y0 ∧
   DataW.trod enc P w base spare held n f1.type ((cs.drop f1.offset).take (P.cellsOf f1.type))=some y1∧DataW.trod enc P w base spare held n f2.type ((cs.drop f2.offset).take (P.cellsOf f2.type))=some y2 ∧
   DataW.trod enc P w base spare held n f3.type ((cs.drop f3.offset).take (P.cellsOf f3.type))=some y3∧DataW.trod enc P w base spare held n f4.type ((cs.drop f4.offset).take (P.cellsOf f4.type))=some y4:=by
 obtain ⟨xs,n,_,rfl,hl,hlen,hf⟩:=DataW.trod_struct ht h
 match xs,hlen with
 | [y0,y1,y2,y3,y4],_=>exact ⟨y0,y1,y2,y3,y4,n,by simp,hl,by simpa using hf 0 f0 rfl,by simpa using hf 1 f1 rfl,by simpa using hf 2 f2 rfl,by simpa using hf 3 f3 rfl,by simpa using hf 4 f4 rfl⟩
theorem list8 {cs:List Value} (h:cs.length=8):∃ c0 c1 c2 c3 c4 c5 c6 c7,cs=[c0,c1,c2,c3,c4,c5,c6,c7]:=by
 match cs,h with
 | [c0,c1,c2,c3,c4,c5,c6,c7],_=>exact ⟨c0,c1,c2,c3,c4,c5,c6,c7,rfl⟩
theorem nd_cells {H:Type} {enc:TypeId × Value→H} {W:World} {fuel:Nat} {cs:List Value} {x:DataW H × List MemPlace}
  (hf:DataW.trod enc Tryz.prog W 0 (fun _=>true) true fuel 98 cs=some x) :
  ∃ v:Nd,cs=(ncs v).toList∧vin v.v∧v.t.length∈x.1.weights Tryz.prog 98∧v.n.length∈x.1.weights Tryz.prog 98:=by
 obtain ⟨y0,y1,y2,y3,y4,m,hx,hl,h0,h1,h2,h3,h4⟩:=trod_struct5 Tryz.underlying98 hf
 have hc:Tryz.prog.cellsOf 98=8:=by kernel_rfl
 rw [hc] at hl
 obtain ⟨c0,c1,c2,c3,c4,c5,c6,c7,rfl⟩:=list8 hl
 obtain ⟨a,ea,rfl,wa⟩:=DataW.trod_int Tryz.underlying3 h0
 obtain ⟨s,es,rfl,ws⟩:=DataW.trod_string Tryz.underlying9 h1
 obtain ⟨u,eu,rfl,wu⟩:=DataW.trod_string Tryz.underlying9 h2
 obtain ⟨v,ev,vi,_,_⟩:=val_cells h3
 obtain ⟨b,eb,rfl,wb⟩:=DataW.trod_int Tryz.underlying3 h4
 have c1':Tryz.prog.cellsOf 3=1:=by kernel_rfl
 have c2':Tryz.prog.cellsOf 9=1:=by kernel_rfl
 have c4':Tryz.prog.cellsOf 23=4:=by kernel_rfl
 rw [c1'] at ea eb
 rw [c2'] at es eu
 rw [c4'] at ev
 simp at ea eb es eu ev
 obtain ⟨e1,e2,e3,e4⟩:=ev
 subst ea;subst eb;subst es;subst eu;subst e1;subst e2;subst e3;subst e4
 refine ⟨⟨a,s.data.toList,u.data.toList,v,b⟩,rfl,vi,?_,?_⟩
 all_goals rw [hx]
 all_goals simp [DataW.weights,Tryz.underlying98,DataW.weightsEach]
theorem cells8 {W:World} {a:Addr} {c0 c1 c2 c3 c4 c5 c6 c7:Value} (h:W.cells? 0 a 8=some [c0,c1,c2,c3,c4,c5,c6,c7]):W.cell? (a.add 0)=some c0∧W.cell? (a.add 1)=some c1∧W.cell? (a.add 2)=some c2∧W.cell? (a.add 3)=some c3∧W.cell? (a.add 4)=some c4∧W.cell? (a.add 5)=some c5∧W.cell? (a.add 6)=some c6∧W.cell? (a.add 7)=some c7:=by
 unfold World.cells? at h
 rw [if_pos (Nat.zero_le _)] at h
 have key:∀ (l:List Nat) (r:List Value),l.mapM (fun j=>W.cell? (a.add j))=some r→∀ (i j:Nat) (v:Value),l[i]?=some j→r[i]?=some v→W.cell? (a.add j)=some v:=by
  intro l
  induction l with
  | nil=>intro r _ i j v hi;simp at hi
  | cons x l ih =>
   intro r hr i j v hi hv
   simp only [List.mapM_cons] at hr
   cases hx:W.cell? (a.add x) with
   | none=>simp [hx] at hr
   | some y =>
    simp only [hx,Option.bind_eq_bind,Option.bind_some] at hr
    cases hm:l.mapM (fun j=>W.cell? (a.add j)) with
    | none=>simp [hm] at hr
    | some q =>
     simp [hm] at hr
     subst hr
     cases i with
     | zero=>simp at hi hv;subst hi;subst hv;exact hx
     | succ i=>simp at hi hv;exact ih q hm i j v hi hv
 have k:=key (List.range 8) _ h
 exact ⟨k 0 0 _ rfl rfl,k 1 1 _ rfl rfl,k 2 2 _ rfl rfl,k 3 3 _ rfl rfl,k 4 4 _ rfl rfl,k 5 5 _ rfl rfl,k 6 6 _ rfl rfl,k 7 7 _ rfl rfl⟩
theorem weights_all {H:Type} {P:Program} {e:TypeId} {n:Nat}:∀ {l:List (DataW H)} {d:DataW H},d∈l→n∈d.weights P e→n∈DataW.weightsAll P e l
 | a::l,d,hd,hn=>by
  simp only [DataW.weightsAll,List.mem_append]
  rcases List.mem_cons.1 hd with rfl|hd
  ·exact .inl hn
  ·exact .inr (weights_all hd hn)
theorem bytes88:Tryz.prog.bytesOf 98=88:=by kernel_rfl
theorem nods_open {H:Type} {enc:TypeId × Value→H} {W:World} {a:Option Addr} {len cap fuel:Nat} {cs:List Value} {x:DataW H × List MemPlace}
  (hf:DataW.trod enc Tryz.prog W 0 (fun _=>true) true fuel 44 cs=some x) (hcs:cs=[.slice a len cap]) :
  ∃ l:List Nd,(Nw W a l∧l.length=len∧len≤cap∧(∀ v∈l,vin v.v)∧∀ v∈l,v.t.length∈x.1.weights Tryz.prog 44∧v.n.length∈x.1.weights Tryz.prog 44)∧(cap=0∨∃ es sp,x.1=.slice es sp∧es.length+sp.length=cap):=by
 subst hcs
 have hc8:Tryz.prog.cellsOf 98=8:=by kernel_rfl
 rcases Go.Deep.open_slice Tryz.underlying44 hf with ⟨hcs,_⟩|⟨y,l,c,m,n,D,Pl,hcs,_,hl,hm,hmm,hx,hel⟩
 ·simp at hcs
  obtain ⟨rfl,rfl,rfl⟩:=hcs
  exact ⟨[],⟨fun h=>by simp at h,rfl,Nat.le_refl _,(fun v h=>by simp at h),fun v h=>by simp at h⟩,.inl rfl⟩
 ·simp at hcs
  obtain ⟨rfl,rfl,rfl⟩:=hcs
  have hmc:m=cap:=by simpa using hmm
  rw [hc8] at hel
  have ex:∀ i,i<len→∃ v:Nd,W.cells? 0 (y.add (i*8)) 8=some (ncs v).toList∧vin v.v∧v.t.length∈(D i).weights Tryz.prog 98∧v.n.length∈(D i).weights Tryz.prog 98:=by
   intro i hi
   obtain ⟨cs',h1,h2⟩:=hel i (by omega)
   obtain ⟨v,rfl,hv,hb,hb'⟩:=nd_cells h2
   exact ⟨v,h1,hv,hb,hb'⟩
  let f:Nat→Nd:=fun i=>if h:i<len then (ex i h).choose else ⟨0,[],[],⟨0,0,0,[]⟩,0⟩
  have hf:∀ i (h:i<len),W.cells? 0 (y.add (i*8)) 8=some (ncs (f i)).toList∧vin (f i).v∧(f i).t.length∈(D i).weights Tryz.prog 98∧(f i).n.length∈(D i).weights Tryz.prog 98:=by
   intro i h
   have:f i=(ex i h).choose:=dif_pos h
   rw [this]
   exact (ex i h).choose_spec
  have hw:∀ i,i<len→∀ k,k∈(D i).weights Tryz.prog 98→k∈x.1.weights Tryz.prog 44:=by
   intro i hi k hk
   rw [hx]
   simp only [DataW.weights,Tryz.underlying44,List.mem_cons,List.mem_append]
   exact .inr (.inl (weights_all (d:=D i) (List.mem_map.2 ⟨i,by simp;omega,rfl⟩) hk))
  refine ⟨(List.range len).map f,⟨?_,by simp,by omega,?_,?_⟩,.inr ⟨_,_,by rw [hx],by simp;omega⟩⟩
  ·intro hp
   simp only [List.length_map,List.length_range] at hp
   obtain ⟨b,off,spot⟩:=y
   have h0:=cells8 (hf 0 hp).1
   have hspot:spot=none:=by simpa [Addr.add] using World.cell?_spot h0.1
   subst hspot
   refine ⟨b,off,rfl,fun i hi=>?_⟩
   simp only [List.length_map,List.length_range] at hi
   obtain ⟨g0,g1,g2,g3,g4,g5,g6,g7⟩:=cells8 (hf i hi).1
   simp only [Addr.add_lit] at g0 g1 g2 g3 g4 g5 g6 g7
   simp only [List.getElem_map,List.getElem_range]
   exact ⟨g0,g1,g2,g3,g4,g5,g6,g7⟩
  ·intro v hv
   simp only [List.mem_map,List.mem_range] at hv
   obtain ⟨i,hi,rfl⟩:=hv
   exact (hf i hi).2.1
  ·intro v hv
   simp only [List.mem_map,List.mem_range] at hv
   obtain ⟨i,hi,rfl⟩:=hv
   exact ⟨hw i hi _ (hf i hi).2.2.1,hw i hi _ (hf i hi).2.2.2⟩
end Go.Proofs.YtibbenhplmmmiaaGreatDoor

namespace Go.Proofs.YtibbenhplmmmiaaGreatDoor
open Go.RowKit Go.Shelf
attribute [local go_sem] z0e z0b z0c z0f z0m z0k z0h z0d z0g
theorem Cbox.grown {w w':World} {p:Nat} {cs:Array Value} {ty:TypeId} {row:Option Nat} (h:Cbox w p cs ty) (hg:w.grownBy w' row) (hne:some p≠row):Cbox w' p cs ty:=by
 unfold Cbox
 rw [hg.block p h.lt hne]
 exact h
def z7v (l:List UInt8):Bool:=decide ((lxt l).1=1)&&(decide ((lxt l).2=l.length)&&decide (l.length≤32))
theorem word_any (l:List UInt8) (w:World) (hl:l.length≤140737488351232):Calls Tryz.prog 301 #[.string ⟨l.toArray⟩] w fun e w'=>e=.returned (.bool (z7v l))∧w=w':=by
 have D:∀ W,Calls Tryz.prog 314 #[.string ⟨l.toArray⟩,.int .i64 0] W fun e w'=>e=.returned (tv l 0)∧W=w':=fun W=>z8a l 0 W hl
 have F:=fun W=>fitsName_any ⟨l.toArray⟩ W
 have hsz:(ByteArray.mk l.toArray).size=l.length:=rfl
 rw [hsz] at F
 unfold tv at D
 rw [List.drop_zero] at D
 unfold z7v
 have hle:=lxt_le l
 by_cases h1:(lxt l).1=1
 ·rw [h1] at D ⊢
  rw [if_neg (by decide),Nat.zero_add] at D
  by_cases h2:(lxt l).2=l.length
  ·rw [h2] at D ⊢
   have hq:((l.length:Int)==(l.length:Int))=true:=by simp
   rw [decide_eq_true rfl,decide_eq_true rfl,Bool.true_and,Bool.true_and]
   generalize decide (l.length≤32)=b at *
   generalize ByteArray.mk l.toArray=B at *
   clear h1 h2 hle
   go_enter Tryz.func301,Tryz.ntmps301
   go_wp2_with (first
    | (go_at_call 314;refine (D _).mono ?_;rintro e w' ⟨rfl,rfl⟩)
    | (go_at_call 315;refine (F _).mono ?_;rintro e w' ⟨rfl,rfl⟩))
   go_ret
   exact ⟨rfl,rfl⟩
  ·have hq:(((lxt l).2:Int)==(l.length:Int))=false:=by rw [beq_eq_false_iff_ne];omega
   rw [decide_eq_false h2,Bool.false_and,Bool.and_false]
   generalize ByteArray.mk l.toArray=B at *
   generalize (lxt l).2=n at *
   clear h1 h2 hle F
   go_enter Tryz.func301,Tryz.ntmps301
   go_wp2_with (go_at_call 314;refine (D _).mono ?_;rintro e w' ⟨rfl,rfl⟩)
   go_ret
   exact ⟨rfl,rfl⟩
 ·have hq:(((lxt l).1:Int)==1)=false:=by rw [beq_eq_false_iff_ne];omega
  rw [decide_eq_false h1,Bool.false_and]
  generalize ByteArray.mk l.toArray=B at *
  generalize ((if (lxt l).1=0 then 0 else 0+(lxt l).2:Nat):Int)=n at *
  generalize (lxt l).1=k at *
  clear h1 hle F
  go_enter Tryz.func301,Tryz.ntmps301
  go_wp2_with (go_at_call 314;refine (D _).mono ?_;rintro e w' ⟨rfl,rfl⟩)
  go_ret
  exact ⟨rfl,rfl⟩
structure Ti where
 k:Int
 t:List UInt8
 v:Va
 a:Int
def T7 (w:World) (b o:Nat) (x:Ti):Prop :=
 w.cell? ⟨b,o,none⟩=some (.int .i64 x.k)∧w.cell? ⟨b,o+1,none⟩=some (.string ⟨x.t.toArray⟩)∧w.cell? ⟨b,o+2,none⟩=some (.int .i64 x.v.k)∧w.cell? ⟨b,o+3,none⟩=some (.int .i64 x.v.n) ∧
  w.cell? ⟨b,o+4,none⟩=some (.int .i64 x.v.m)∧w.cell? ⟨b,o+5,none⟩=some (.string ⟨x.v.b.toArray⟩)∧w.cell? ⟨b,o+6,none⟩=some (.int .i64 x.a)
theorem T7.lt {w:World} {b o:Nat} {x:Ti} (h:T7 w b o x):b<w.heap.size:=World.block_lt_of_cell? w _ h.1
theorem T7.later {w w':World} {b o:Nat} {x:Ti} (h:T7 w b o x) (hb:Below w.heap.size w w'):T7 w' b o x:=by
 have hl:=h.lt
 obtain ⟨h0,h1,h2,h3,h4,h5,h6⟩:=h
 exact ⟨(hb.cell (p:=⟨b,o,none⟩) hl).trans h0,(hb.cell (p:=⟨b,o+1,none⟩) hl).trans h1,(hb.cell (p:=⟨b,o+2,none⟩) hl).trans h2,(hb.cell (p:=⟨b,o+3,none⟩) hl).trans h3,(hb.cell (p:=⟨b,o+4,none⟩) hl).trans h4,(hb.cell (p:=⟨b,o+5,none⟩) hl).trans h5,(hb.cell (p:=⟨b,o+6,none⟩) hl).trans h6⟩
def Tw (w:World) (ao:Option Addr) (l:List Ti):Prop :=
 0<l.length→∃ b off,ao=some ⟨b,off,none⟩∧∀ i (h:i<l.length),T7 w b (off+i*7) l[i]
theorem Tw.later {w w':World} {ao:Option Addr} {l:List Ti} (h:Tw w ao l) (hb:Below w.heap.size w w'):Tw w' ao l:=by
 intro hp
 obtain ⟨b,off,e,hc⟩:=h hp
 exact ⟨b,off,e,fun i hi=>(hc i hi).later hb⟩
def z5u (l:List UInt8):Bool:=z7v l&&!resL l
theorem isName_any (l:List UInt8) (w:World) (hl:l.length≤140737488351232):Calls Tryz.prog 280 #[.string ⟨l.toArray⟩] w fun e w'=>e=.returned (.bool (z5u l))∧w=w':=by
 have A:=fun W=>word_any l W hl
 have B:=fun W=>reserved_any ⟨l.toArray⟩ W
 have e:(ByteArray.mk l.toArray).toList=l:=by rw [ByteArray.toList_eq]
 rw [e] at B
 clear e
 unfold z5u
 generalize ByteArray.mk l.toArray=S at *
 generalize z7v l=b at *
 cases b with
 | false =>
  clear B
  go_enter Tryz.func280,Tryz.ntmps280
  go_wp2_with (go_at_call 301;refine (A _).mono ?_;rintro e w' ⟨rfl,rfl⟩)
  go_ret
  exact ⟨rfl,rfl⟩
 | true =>
  generalize resL l=r at *
  go_enter Tryz.func280,Tryz.ntmps280
  go_wp2_with (first
   | (go_at_call 301;refine (A _).mono ?_;rintro e w' ⟨rfl,rfl⟩)
   | (go_at_call 302;refine (B _).mono ?_;rintro e w' ⟨rfl,rfl⟩))
  go_ret
  exact ⟨rfl,rfl⟩
def litV (v:Va):Bool:=vr v&&(!(v.k==5)&&decide (0≤v.n))
theorem isLiteral_any (v:Va) (w:World) (hT:Tabs w):Calls Tryz.prog 279 #[va v.k v.n v.m ⟨v.b.toArray⟩] w fun e w'=>e=.returned (.bool (litV v))∧Below w.heap.size w w':=by
 have A:∀ W,Below w.heap.size w W→Calls Tryz.prog 34 #[va v.k v.n v.m ⟨v.b.toArray⟩] W fun e w'=>e=.returned (.bool (vr v))∧Below W.heap.size W w':=fun W h=>z3s v.k v.n v.m ⟨v.b.toArray⟩ W (hT.later h)
 unfold litV
 obtain ⟨vk,vn,vm,vb⟩:=v
 generalize vr ⟨vk,vn,vm,vb⟩=r at *
 simp only at A ⊢
 clear hT
 have Z:=Cbox.new w #[.int .i64 vk,.int .i64 vn,.int .i64 vm,.string ⟨vb.toArray⟩] 23
 have A0:=(Below.refl w.heap.size w).alloc (Nat.le_refl _) (.cells #[.int .i64 vk,.int .i64 vn,.int .i64 vm,.string ⟨vb.toArray⟩] 23)
 cases r with
 | false =>
  clear Z
  go_enter Tryz.func279,Tryz.ntmps279
  go_wp2_with (go_at_call 34;refine (A _ A0).mono ?_;rintro e w1 ⟨rfl,b1⟩;have B1:=A0.trans (b1.mono A0.size))
  go_ret
  exact ⟨rfl,B1⟩
 | true =>
  have hk:(!(vk==5)&&decide (0≤vn))=(if vk=5 then false else decide (0≤vn)):=by
   by_cases h:vk=5
   ·subst h;rfl
   ·rw [if_neg h];simp [h]
  rw [Bool.true_and,hk]
  by_cases h5:vk=5
  ·rw [if_pos h5]
   subst h5
   go_enter Tryz.func279,Tryz.ntmps279
   go_wp2_with (go_at_call 34;refine (A _ A0).mono ?_;rintro e w1 ⟨rfl,b1⟩;have B1:=A0.trans (b1.mono A0.size);have z0:=(Z.later b1).at 0;have z1:=(Z.later b1).at 1;have zl:=(Z.later b1).lt)
   go_ret
   exact ⟨rfl,B1⟩
  ·rw [if_neg h5]
   have h5':(vk==5)=false:=by rw [beq_eq_false_iff_ne];exact h5
   go_enter Tryz.func279,Tryz.ntmps279
   go_wp2_with (go_at_call 34;refine (A _ A0).mono ?_;rintro e w1 ⟨rfl,b1⟩;have B1:=A0.trans (b1.mono A0.size);have z0:=(Z.later b1).at 0;have z1:=(Z.later b1).at 1;have zl:=(Z.later b1).lt)
   go_ret
   exact ⟨by show Ending.returned _=_;congr 2;simp [h5],B1⟩
def fitN (x:Nd):Bool:=if x.o=1 then litV x.v else if x.o=2 then z5u x.n&&(x.t==[] || z5u x.t) else if x.o=19 then z5u x.n&&(decide (0≤x.a)&&decide (x.a≤4)) else decide (3≤x.o)&&decide (x.o≤18)
def mayN (x:Nd):Bool:=sameN x (namedN x)&&fitN x
theorem z7w (x:Nd) (h:mayN x=true):0≤opsN x∧opsN x≤4:=by
 unfold mayN fitN at h
 unfold opsN
 obtain ⟨xo,xt,xn,xv,xa⟩:=x
 simp only [Bool.and_eq_true] at h ⊢
 by_cases h1:xo=1
 ·subst h1;simp
 by_cases h2:xo=2
 ·subst h2;simp
 by_cases h3:xo=19
 ·rw [if_neg h1,if_neg h2,if_pos h3] at h
  rw [if_pos h3]
  have:=h.2
  simp at this
  omega
 ·rw [if_neg h3]
  split
  ·omega
  split <;> omega
theorem z8e (x:Nd) (w:World) (hT:Tabs w) (ht:x.t.length≤140737488351232) (hn:x.n.length≤140737488351232):Calls Tryz.prog 240 #[ndv x] w fun e w'=>e=.returned (.bool (fitN x))∧Below w.heap.size w w':=by
 have L:=fun W (h:Below w.heap.size w W)=>isLiteral_any x.v W (hT.later h)
 have N1:=fun W=>isName_any x.n W hn
 have N2:=fun W=>isName_any x.t W ht
 clear hT
 obtain ⟨xo,xt,xn,xv,xa⟩:=x
 unfold fitN
 simp only at L N1 N2 ht hn ⊢
 have A0:=(Below.refl w.heap.size w).alloc (Nat.le_refl _) (.cells (ncs ⟨xo,xt,xn,xv,xa⟩) 99)
 by_cases h1:xo=1
 ·subst h1
  rw [if_pos rfl]
  clear N1 N2
  generalize litV xv=r at *
  go_enter Tryz.func240,Tryz.ntmps240
  go_wp2_with (go_at_call 279;refine (L _ A0).mono ?_;rintro e w1 ⟨rfl,b1⟩;have B1:=A0.trans (b1.mono A0.size))
  go_ret
  exact ⟨rfl,B1⟩
 have e1:(xo==1)=false:=by rw [beq_eq_false_iff_ne];exact h1
 rw [if_neg h1]
 clear L
 by_cases h2:xo=2
 ·subst h2
  rw [if_pos rfl]
  by_cases hx:xt=[]
  ·subst hx
   clear N2
   generalize z5u xn=r1 at *
   cases r1
   all_goals (
    go_enter Tryz.func240,Tryz.ntmps240
    go_wp2_with (go_at_call 280;refine (N1 _).mono ?_;rintro e w' ⟨rfl,rfl⟩)
    go_ret
    exact ⟨rfl,A0⟩)
  ·have hem:(ByteArray.mk xt.toArray).toList.isEmpty=false:=by
    rw [Lib.toList_data]
    cases xt with
    | nil=>exact absurd rfl hx
    | cons=>rfl
   have hxe:(xt==[])=false:=by rw [beq_eq_false_iff_ne];exact hx
   rw [hxe,Bool.false_or]
   have hx2:xt.isEmpty=false:=by cases xt with|nil=>exact absurd rfl hx|cons=>rfl
   clear hxe
   generalize z5u xn=r1 at *
   generalize z5u xt=r2 at *
   cases r1
   all_goals (
    go_enter Tryz.func240,Tryz.ntmps240
    go_wp2_with (first
     | (go_at_call_of 280 (Value.string ⟨xn.toArray⟩);refine (N1 _).mono ?_;rintro e w' ⟨rfl,rfl⟩)
     | (go_at_call_of 280 (Value.string ⟨xt.toArray⟩);refine (N2 _).mono ?_;rintro e w' ⟨rfl,rfl⟩))
    go_ret
    exact ⟨rfl,A0⟩)
 have e2:(xo==2)=false:=by rw [beq_eq_false_iff_ne];exact h2
 rw [if_neg h2]
 clear N2
 by_cases h3:xo=19
 ·subst h3
  rw [if_pos rfl]
  generalize z5u xn=r1 at *
  cases r1 with
  | false =>
   go_enter Tryz.func240,Tryz.ntmps240
   go_wp2_with (go_at_call 280;refine (N1 _).mono ?_;rintro e w' ⟨rfl,rfl⟩)
   go_ret
   exact ⟨rfl,A0⟩
  | true =>
   by_cases h4:0≤xa
   ·rw [decide_eq_true h4]
    go_enter Tryz.func240,Tryz.ntmps240
    go_wp2_with (go_at_call 280;refine (N1 _).mono ?_;rintro e w' ⟨rfl,rfl⟩)
    go_ret
    exact ⟨rfl,A0⟩
   ·rw [decide_eq_false h4]
    go_enter Tryz.func240,Tryz.ntmps240
    go_wp2_with (go_at_call 280;refine (N1 _).mono ?_;rintro e w' ⟨rfl,rfl⟩)
    go_ret
    exact ⟨rfl,A0⟩
 ·have e3:(xo==19)=false:=by rw [beq_eq_false_iff_ne];exact h3
  rw [if_neg h3]
  clear N1
  by_cases h4:3≤xo
  ·rw [decide_eq_true h4]
   go_enter Tryz.func240,Tryz.ntmps240
   go_wp2
   go_ret
   exact ⟨rfl,A0⟩
  ·rw [decide_eq_false h4]
   go_enter Tryz.func240,Tryz.ntmps240
   go_wp2
   go_ret
   exact ⟨rfl,A0⟩
theorem mayBe_any (x:Nd) (w:World) (hT:Tabs w) (ht:x.t.length≤140737488351232) (hn:x.n.length≤140737488351232):Calls Tryz.prog 183 #[ndv x] w fun e w'=>e=.returned (.bool (mayN x))∧Below w.heap.size w w':=by
 have F:=fun W (h:Below w.heap.size w W)=>z8e x W (hT.later h) ht hn
 have M:=fun W=>enamed_any x W
 clear hT
 unfold mayN
 have E:=fun W=>eqNd x (namedN x) W
 generalize sameN x (namedN x)=s at *
 generalize fitN x=f at *
 generalize namedN x=y at *
 obtain ⟨xo,xt,xn,xv,xa⟩:=x
 obtain ⟨yo,yt,yn,yv,ya⟩:=y
 have A0:=(Below.refl w.heap.size w).alloc (Nat.le_refl _) (.cells (ncs ⟨xo,xt,xn,xv,xa⟩) 99)
 have Z:Cbox (w.alloc (.cells (ncs ⟨xo,xt,xn,xv,xa⟩) 99)).drew w.heap.size (ncs ⟨xo,xt,xn,xv,xa⟩) 99:=Cbox.new w (ncs ⟨xo,xt,xn,xv,xa⟩) 99
 cases s with
 | false =>
  go_enter Tryz.func183,Tryz.ntmps183
  go_wp2
  refine wp_region_held_drew (S:=(fun W=>Cbox W w.heap.size (ncs ⟨xo,xt,xn,xv,xa⟩) 99∧Below w.heap.size w W)) gK ?_ (fun hHeld=>?_)
  ·((try dsimp only);exact ⟨Z,A0.drew⟩)
  refine wpAnyH_take (i:=0) (oi:=⟨some 3,.load 99 (.tmp 1),99, "expr.go:124",#[],none⟩) (v:=?_) rfl gK gK gK (fun _ _ _ h=>h) (Or.inl ⟨by rfl,?_⟩) (by assumption) ?_
  rotate_left
  ·(intro W hSw;(try dsimp only at hSw);have z0:=hSw.1.at 0;have z1:=hSw.1.at 1;have z2:=hSw.1.at 2;have z3:=hSw.1.at 3;have z4:=hSw.1.at 4;have z5:=hSw.1.at 5;have z6:=hSw.1.at 6;have z7:=hSw.1.at 7;clear hSw;first|(go_simp;done)|(go_simp;with_reducible rfl))
  try simp only [Act.put,sA,sB,sC]
  refine wpAnyH_take (i:=1) (oi:=⟨some 4,.load 99 (.tmp 1),99, "expr.go:124",#[],none⟩) (v:=?_) rfl gK gK gK (fun _ _ _ h=>h) (Or.inl ⟨by rfl,?_⟩) (by assumption) ?_
  rotate_left
  ·(intro W hSw;(try dsimp only at hSw);have z0:=hSw.1.at 0;have z1:=hSw.1.at 1;have z2:=hSw.1.at 2;have z3:=hSw.1.at 3;have z4:=hSw.1.at 4;have z5:=hSw.1.at 5;have z6:=hSw.1.at 6;have z7:=hSw.1.at 7;clear hSw;first|(go_simp;done)|(go_simp;with_reducible rfl))
  try simp only [Act.put,sA,sB,sC]
  refine wpAnyH_ready (rs:=[2]) gK (by simp) ?_
  refine AllReadyH.cons (o:=⟨some 5,.call { callee:=Callee.value (Operand.func 239),args:=#[.tmp 4],argTypes:=#[99] },99, "expr.go:124",#[⟨1,.data⟩],none⟩) rfl (fun K hK=>?_) AllReadyH.nil
  go_simp
  go_wp2_with (go_at_call 239;refine (M _).mono ?_;rintro e w2 ⟨rfl,g2⟩;have b2:=g2.below;clear g2)
  refine hK.out _ _ ?_ (fun hHeld=>?_)
  ·((try dsimp only);first|exact ⟨hHeld.1.later b3,hHeld.2.trans (b3.mono hHeld.2.size)⟩|exact ⟨hHeld.1.later b2,hHeld.2.trans (b2.mono hHeld.2.size)⟩)
  clear hK K
  try simp only [Act.put,sA,sB,sC]
  refine wpAnyH_take (i:=3) (oi:=⟨some 6,.binOp .eql 99 (.tmp 3) (.tmp 5) 99,4, "expr.go:124",#[⟨0,.data⟩,⟨2,.data⟩],none⟩) (v:=?_) rfl gK gK gK (fun _ _ _ h=>h) (Or.inl ⟨by rfl,?_⟩) (by assumption) ?_
  rotate_left
  ·(intro W hSw;(try dsimp only at hSw);have z0:=hSw.1.at 0;have z1:=hSw.1.at 1;have z2:=hSw.1.at 2;have z3:=hSw.1.at 3;have z4:=hSw.1.at 4;have z5:=hSw.1.at 5;have z6:=hSw.1.at 6;have z7:=hSw.1.at 7;clear hSw;first|(go_simp;done)|(go_simp;with_reducible rfl))
  try simp only [Act.put,sA,sB,sC]
  refine wpAnyH_take (i:=4) (oi:=⟨some 7,.move (.tmp 6),4, "expr.go:124",#[⟨3,.data⟩,⟨2,.chain⟩],none⟩) (v:=?_) rfl gK gK gK (fun _ _ _ h=>h) (Or.inl ⟨by rfl,?_⟩) (by assumption) ?_
  rotate_left
  ·(intro W hSw;(try dsimp only at hSw);have z0:=hSw.1.at 0;have z1:=hSw.1.at 1;have z2:=hSw.1.at 2;have z3:=hSw.1.at 3;have z4:=hSw.1.at 4;have z5:=hSw.1.at 5;have z6:=hSw.1.at 6;have z7:=hSw.1.at 7;clear hSw;first|(go_simp;done)|(go_simp;with_reducible rfl))
  try simp only [Act.put,sA,sB,sC]
  refine wpAnyH_take (i:=5) (oi:=⟨some 8,.load 99 (.tmp 1),99, "expr.go:124",#[⟨4,.guard⟩],some (4,true)⟩) (v:=undef) rfl gK gK gK (fun _ _ _ h=>h) (Or.inr ⟨by rfl,rfl⟩) (by assumption) ?_
  try simp only [Act.put,sA,sB,sC]
  refine wpAnyH_take (i:=6) (oi:=⟨some 9,.call { callee:=Callee.value (Operand.func 240),args:=#[.tmp 8],argTypes:=#[99] },4, "expr.go:124",#[⟨5,.data⟩,⟨4,.chain⟩,⟨4,.guard⟩],some (4,true)⟩) (v:=undef) rfl gK gK gK (fun _ _ _ h=>h) (Or.inr ⟨by rfl,rfl⟩) (by assumption) ?_
  try simp only [Act.put,sA,sB,sC]
  refine wpAnyH_take (i:=7) (oi:=⟨some 10,.pick (.tmp 7) (.tmp 9) (.const (Value.bool false)),4, "expr.go:124",#[⟨4,.data⟩,⟨6,.data⟩],none⟩) (v:=?_) rfl gK gK gK (fun _ _ _ h=>h) (Or.inl ⟨by rfl,?_⟩) (by assumption) ?_
  rotate_left
  ·(intro W hSw;(try dsimp only at hSw);have z0:=hSw.1.at 0;have z1:=hSw.1.at 1;have z2:=hSw.1.at 2;have z3:=hSw.1.at 3;have z4:=hSw.1.at 4;have z5:=hSw.1.at 5;have z6:=hSw.1.at 6;have z7:=hSw.1.at 7;clear hSw;first|(go_simp;done)|(go_simp;with_reducible rfl))
  try simp only [Act.put,sA,sB,sC]
  refine wpAnyH_take (i:=8) (oi:=⟨some 2,.assign (.tmp 10),4, "expr.go:124",#[⟨7,.data⟩,⟨6,.chain⟩,⟨0,.phase⟩,⟨1,.phase⟩,⟨2,.phase⟩,⟨3,.phase⟩,⟨4,.phase⟩,⟨5,.phase⟩,⟨6,.phase⟩,⟨7,.phase⟩],none⟩) (v:=?_) rfl gK gK gK (fun _ _ _ h=>h) (Or.inl ⟨by rfl,?_⟩) (by assumption) ?_
  rotate_left
  ·(intro W hSw;(try dsimp only at hSw);have z0:=hSw.1.at 0;have z1:=hSw.1.at 1;have z2:=hSw.1.at 2;have z3:=hSw.1.at 3;have z4:=hSw.1.at 4;have z5:=hSw.1.at 5;have z6:=hSw.1.at 6;have z7:=hSw.1.at 7;clear hSw;first|(go_simp;done)|(go_simp;with_reducible rfl))
  try simp only [Act.put,sA,sB,sC]
  refine wpAnyH_done gK ?_ _
  go_wp2
  go_ret
  exact ⟨rfl,hHeld.2⟩
 | true =>
  go_enter Tryz.func183,Tryz.ntmps183
  go_wp2
  refine wp_region_held_drew (S:=(fun W=>Cbox W w.heap.size (ncs ⟨xo,xt,xn,xv,xa⟩) 99∧Below w.heap.size w W)) gK ?_ (fun hHeld=>?_)
  ·((try dsimp only);exact ⟨Z,A0.drew⟩)
  refine wpAnyH_take (i:=0) (oi:=⟨some 3,.load 99 (.tmp 1),99, "expr.go:124",#[],none⟩) (v:=?_) rfl gK gK gK (fun _ _ _ h=>h) (Or.inl ⟨by rfl,?_⟩) (by assumption) ?_
  rotate_left
  ·(intro W hSw;(try dsimp only at hSw);have z0:=hSw.1.at 0;have z1:=hSw.1.at 1;have z2:=hSw.1.at 2;have z3:=hSw.1.at 3;have z4:=hSw.1.at 4;have z5:=hSw.1.at 5;have z6:=hSw.1.at 6;have z7:=hSw.1.at 7;clear hSw;first|(go_simp;done)|(go_simp;with_reducible rfl))
  try simp only [Act.put,sA,sB,sC]
  refine wpAnyH_take (i:=1) (oi:=⟨some 4,.load 99 (.tmp 1),99, "expr.go:124",#[],none⟩) (v:=?_) rfl gK gK gK (fun _ _ _ h=>h) (Or.inl ⟨by rfl,?_⟩) (by assumption) ?_
  rotate_left
  ·(intro W hSw;(try dsimp only at hSw);have z0:=hSw.1.at 0;have z1:=hSw.1.at 1;have z2:=hSw.1.at 2;have z3:=hSw.1.at 3;have z4:=hSw.1.at 4;have z5:=hSw.1.at 5;have z6:=hSw.1.at 6;have z7:=hSw.1.at 7;clear hSw;first|(go_simp;done)|(go_simp;with_reducible rfl))
  try simp only [Act.put,sA,sB,sC]
  refine wpAnyH_ready (rs:=[2]) gK (by simp) ?_
  refine AllReadyH.cons (o:=⟨some 5,.call { callee:=Callee.value (Operand.func 239),args:=#[.tmp 4],argTypes:=#[99] },99, "expr.go:124",#[⟨1,.data⟩],none⟩) rfl (fun K hK=>?_) AllReadyH.nil
  go_simp
  go_wp2_with (go_at_call 239;refine (M _).mono ?_;rintro e w2 ⟨rfl,g2⟩;have b2:=g2.below;clear g2)
  refine hK.out _ _ ?_ (fun hHeld=>?_)
  ·((try dsimp only);first|exact ⟨hHeld.1.later b3,hHeld.2.trans (b3.mono hHeld.2.size)⟩|exact ⟨hHeld.1.later b2,hHeld.2.trans (b2.mono hHeld.2.size)⟩)
  clear hK K
  try simp only [Act.put,sA,sB,sC]
  refine wpAnyH_take (i:=3) (oi:=⟨some 6,.binOp .eql 99 (.tmp 3) (.tmp 5) 99,4, "expr.go:124",#[⟨0,.data⟩,⟨2,.data⟩],none⟩) (v:=?_) rfl gK gK gK (fun _ _ _ h=>h) (Or.inl ⟨by rfl,?_⟩) (by assumption) ?_
  rotate_left
  ·(intro W hSw;(try dsimp only at hSw);have z0:=hSw.1.at 0;have z1:=hSw.1.at 1;have z2:=hSw.1.at 2;have z3:=hSw.1.at 3;have z4:=hSw.1.at 4;have z5:=hSw.1.at 5;have z6:=hSw.1.at 6;have z7:=hSw.1.at 7;clear hSw;first|(go_simp;done)|(go_simp;with_reducible rfl))
  try simp only [Act.put,sA,sB,sC]
  refine wpAnyH_take (i:=4) (oi:=⟨some 7,.move (.tmp 6),4, "expr.go:124",#[⟨3,.data⟩,⟨2,.chain⟩],none⟩) (v:=?_) rfl gK gK gK (fun _ _ _ h=>h) (Or.inl ⟨by rfl,?_⟩) (by assumption) ?_
  rotate_left
  ·(intro W hSw;(try dsimp only at hSw);have z0:=hSw.1.at 0;have z1:=hSw.1.at 1;have z2:=hSw.1.at 2;have z3:=hSw.1.at 3;have z4:=hSw.1.at 4;have z5:=hSw.1.at 5;have z6:=hSw.1.at 6;have z7:=hSw.1.at 7;clear hSw;first|(go_simp;done)|(go_simp;with_reducible rfl))
  try simp only [Act.put,sA,sB,sC]
  refine wpAnyH_take (i:=5) (oi:=⟨some 8,.load 99 (.tmp 1),99, "expr.go:124",#[⟨4,.guard⟩],some (4,true)⟩) (v:=?_) rfl gK gK gK (fun _ _ _ h=>h) (Or.inl ⟨by rfl,?_⟩) (by assumption) ?_
  rotate_left
  ·(intro W hSw;(try dsimp only at hSw);have z0:=hSw.1.at 0;have z1:=hSw.1.at 1;have z2:=hSw.1.at 2;have z3:=hSw.1.at 3;have z4:=hSw.1.at 4;have z5:=hSw.1.at 5;have z6:=hSw.1.at 6;have z7:=hSw.1.at 7;clear hSw;first|(go_simp;done)|(go_simp;with_reducible rfl))
  try simp only [Act.put,sA,sB,sC]
  refine wpAnyH_ready (rs:=[6]) gK (by simp) ?_
  refine AllReadyH.cons (o:=⟨some 9,.call { callee:=Callee.value (Operand.func 240),args:=#[.tmp 8],argTypes:=#[99] },4, "expr.go:124",#[⟨5,.data⟩,⟨4,.chain⟩,⟨4,.guard⟩],some (4,true)⟩) rfl (fun K hK=>?_) AllReadyH.nil
  go_simp
  go_wp2_with (go_at_call 240;refine (F _ hHeld.2).mono ?_;rintro e w3 ⟨rfl,b3⟩)
  refine hK.out _ _ ?_ (fun hHeld=>?_)
  ·((try dsimp only);first|exact ⟨hHeld.1.later b3,hHeld.2.trans (b3.mono hHeld.2.size)⟩|exact ⟨hHeld.1.later b2,hHeld.2.trans (b2.mono hHeld.2.size)⟩)
  clear hK K
  try simp only [Act.put,sA,sB,sC]
  refine wpAnyH_take (i:=7) (oi:=⟨some 10,.pick (.tmp 7) (.tmp 9) (.const (Value.bool false)),4, "expr.go:124",#[⟨4,.data⟩,⟨6,.data⟩],none⟩) (v:=?_) rfl gK gK gK (fun _ _ _ h=>h) (Or.inl ⟨by rfl,?_⟩) (by assumption) ?_
  rotate_left
  ·(intro W hSw;(try dsimp only at hSw);have z0:=hSw.1.at 0;have z1:=hSw.1.at 1;have z2:=hSw.1.at 2;have z3:=hSw.1.at 3;have z4:=hSw.1.at 4;have z5:=hSw.1.at 5;have z6:=hSw.1.at 6;have z7:=hSw.1.at 7;clear hSw;first|(go_simp;done)|(go_simp;with_reducible rfl))
  try simp only [Act.put,sA,sB,sC]
  refine wpAnyH_take (i:=8) (oi:=⟨some 2,.assign (.tmp 10),4, "expr.go:124",#[⟨7,.data⟩,⟨6,.chain⟩,⟨0,.phase⟩,⟨1,.phase⟩,⟨2,.phase⟩,⟨3,.phase⟩,⟨4,.phase⟩,⟨5,.phase⟩,⟨6,.phase⟩,⟨7,.phase⟩],none⟩) (v:=?_) rfl gK gK gK (fun _ _ _ h=>h) (Or.inl ⟨by rfl,?_⟩) (by assumption) ?_
  rotate_left
  ·(intro W hSw;(try dsimp only at hSw);have z0:=hSw.1.at 0;have z1:=hSw.1.at 1;have z2:=hSw.1.at 2;have z3:=hSw.1.at 3;have z4:=hSw.1.at 4;have z5:=hSw.1.at 5;have z6:=hSw.1.at 6;have z7:=hSw.1.at 7;clear hSw;first|(go_simp;done)|(go_simp;with_reducible rfl))
  try simp only [Act.put,sA,sB,sC]
  refine wpAnyH_done gK ?_ _
  go_wp2
  go_ret
  exact ⟨rfl,hHeld.2⟩
structure Fr (w w':World) (p:Nat) (row:Option Nat):Prop where
 os:w'.os=w.os
 tape:w'.tape=w.tape
 output:w'.output=w.output
 size:w.heap.size≤w'.heap.size
 block:∀ k,k<w.heap.size→k≠p→row≠some k→w'.heap[k]?=w.heap[k]?
theorem Fr.refl (w:World) (p:Nat) (row:Option Nat):Fr w w p row:=⟨rfl,rfl,rfl,Nat.le_refl _,fun _ _ _ _=>rfl⟩
theorem Fr.of_below {w w':World} (h:Below w.heap.size w w') (p:Nat) (row:Option Nat):Fr w w' p row:=⟨h.os,h.tape,h.output,h.size,fun k hk _ _=>h.block k hk⟩
theorem Fr.trans {w w1 w2:World} {p:Nat} {r r1:Option Nat} (h:Fr w w1 p r) (h1:Fr w1 w2 p r1) (hr:∀ k,r1=some k→r=some k∨w.heap.size≤k):Fr w w2 p r:=by
 refine ⟨h1.os.trans h.os,h1.tape.trans h.tape,h1.output.trans h.output,Nat.le_trans h.size h1.size,fun k hk hp hn=>?_⟩
 rw [h1.block k (Nat.lt_of_lt_of_le hk h.size) hp (fun e=>?_)]
 ·exact h.block k hk hp hn
 ·rcases hr k e with h'|h'
  ·exact hn h'
  ·omega
theorem Fr.below {w w':World} {p:Nat} {r:Option Nat} {B:Nat} {w0:World} (h:Fr w w' p r) (hb:Below B w0 w) (hw:B≤w.heap.size) (hp:B≤p) (hr:∀ k,r=some k→B≤k):Below B w0 w':=by
 refine ⟨h.os.trans hb.os,h.tape.trans hb.tape,h.output.trans hb.output,Nat.le_trans hb.size h.size,fun k hk=>?_⟩
 rw [h.block k (by omega) (by omega) (fun e=>by have:=hr k e;omega)]
 exact hb.block k hk
def z6f (x:List Nd):List Value:=x.flatMap fun t=>(ncs t).toList
abbrev Nowns (w:World) (base:Nat) (v:Value) (x:List Nd):Prop:=w.ownsRow base 99 8 v x.length (z6f x)
theorem ncells_snoc (x:List Nd) (t:Nd):z6f (x++[t])=z6f x++(ncs t).toList:=by
 simp [z6f]
theorem one_nd (x:Nd):∀ u∈(ncs x).toList,u.oneCell'=true:=by
 intro u hu
 simp at hu
 rcases hu with rfl|rfl|rfl|rfl|rfl|rfl|rfl|rfl <;> rfl
theorem infoNd:(Tryz.prog.info? 99).map (fun i=>(i.zero,i.size,i.bytes))=some (some (.agg #[.int .i64 0,.string ⟨#[]⟩,.string ⟨#[]⟩,.int .i64 0,.int .i64 0,.int .i64 0,.string ⟨#[]⟩,.int .i64 0]),8,88):=by kernel_rfl
theorem Nowns.push {w:World} {base n:Nat} {v:Value} {acc:List Nd} {x:Nd} (h:w.ownsRow base 99 8 v n (z6f acc++(ncs x).toList)) (hn:n=acc.length+1):Nowns w base v (acc++[x]):=by
 unfold Nowns
 rw [ncells_snoc,List.length_append]
 subst hn
 exact h
def Goes (p:Nat) (w w':World) (nv nv':Value):Prop:=Fr w w' p nv.ownBlock∧∀ g,nv'.ownBlock=some g→nv.ownBlock=some g∨w.heap.size≤g
theorem Goes.refl (p:Nat) (w:World) (nv:Value):Goes p w w nv nv:=⟨Fr.refl _ _ _,fun _ h=>.inl h⟩
theorem Goes.of_fr {p:Nat} {w w':World} (h:Fr w w' p none) (nv:Value):Goes p w w' nv nv:=⟨⟨h.os,h.tape,h.output,h.size,fun k hk hp _=>h.block k hk hp (by simp)⟩,fun _ h=>.inl h⟩
theorem Goes.trans {p:Nat} {w w1 w2:World} {nv n1 n2:Value} (h:Goes p w w1 nv n1) (k:Goes p w1 w2 n1 n2):Goes p w w2 nv n2:=by
 refine ⟨h.1.trans k.1 h.2,fun g hg=>?_⟩
 rcases k.2 g hg with e|e
 ·exact h.2 g e
 ·exact .inr (Nat.le_trans h.1.size e)
theorem Nowns.shape {w:World} {base:Nat} {v:Value} {x:List Nd} (h:Nowns w base v x):∃ ao cap,v=.slice ao x.length cap:=by
 obtain ⟨h1,h2⟩:=h
 rcases h2 with ⟨rfl,hn⟩|⟨g,cap,cur,rfl,_⟩
 ·exact ⟨none,0,by rw [hn]⟩
 ·exact ⟨_,cap,rfl⟩
end Go.Proofs.YtibbenhplmmmiaaGreatDoor

namespace Go.Proofs.YtibbenhplmmmiaaGreatDoor
inductive NT|ex|an|no|co|su|te|un|en
end Go.Proofs.YtibbenhplmmmiaaGreatDoor

namespace Go.Proofs.YtibbenhplmmmiaaGreatDoor
open Go.RowKit Go.Shelf
attribute [local go_sem] z0e z0b z0c z0f z0m z0k z0h z0d z0g
theorem Goes.box {p q:Nat} {w w':World} {nv nv':Value} {cs:Array Value} {ty:TypeId} (h:Goes p w w' nv nv') (hc:Cbox w q cs ty) (hq:q≠p) (hr:∀ g,nv.ownBlock=some g→g≠q):Cbox w' q cs ty:=by
 show w'.heap[q]?=_
 rw [h.1.block q (Cbox.lt hc) hq (fun e=>hr q e rfl)]
 exact hc
theorem Goes.row {p q:Nat} {w w':World} {nv nv':Value} (h:Goes p w w' nv nv') (hl:q<w.heap.size) (hr:∀ g,nv.ownBlock=some g→g≠q):∀ g,nv'.ownBlock=some g→g≠q:=by
 intro g hg
 rcases h.2 g hg with e|e
 ·exact hr g e
 ·omega
theorem Goes.alloc {p:Nat} {wc w:World} {nc nv:Value} (h:Goes p wc w nc nv) (o:Obj):Goes p wc (w.alloc o) nc nv:=h.trans (Goes.of_fr (Fr.of_below ((Below.refl _ w).alloc (Nat.le_refl _) o) p none) nv)
theorem ncells_at (x:List Nd):∀ (i j:Nat) (hi:i<x.length),j<8→(z6f x)[i*8+j]?=(ncs x[i])[j]?:=by
 induction x with
 | nil=>intro i j hi;simp at hi
 | cons t x ih =>
  intro i j hi hj
  have e:z6f (t::x)=(ncs t).toList++z6f x:=by simp [z6f]
  rw [e]
  cases i with
  | zero =>
   rw [List.getElem?_append_left (by simpa using hj)]
   simp
  | succ i =>
   rw [List.getElem?_append_right (by simp;omega)]
   simp at hi
   have:=ih i j hi hj
   simp only [List.getElem_cons_succ]
   rw [← this]
   congr 1
   simp;omega
theorem Nowns.lies {w:World} {base:Nat} {v:Value} {x:List Nd} (h:Nowns w base v x) :
  ∃ ao cap,v=.slice ao x.length cap∧Nw w ao x:=by
 obtain ⟨h1,h2⟩:=h
 rcases h2 with ⟨rfl,hn⟩|⟨g,cap,cur,rfl,hb,hg,hnc,hcm,hcs,htake⟩
 ·exact ⟨none,0,by rw [hn],fun hp=>by omega⟩
 ·refine ⟨some ⟨g,0,none⟩,cap,rfl,fun hp=>⟨g,0,rfl,fun i hi=>?_⟩⟩
  have hc:∀ j,j<8→w.cell? ⟨g,0+i*8+j,none⟩=(ncs x[i])[j]?:=by
   intro j hj
   rw [← ncells_at x i j hi hj,cell_of_row w g (0+i*8+j) cur _ (0,0) hg,← htake]
   rw [List.getElem?_take,if_pos (by omega),Nat.zero_add]
   simp
  exact ⟨hc 0 (by decide),hc 1 (by decide),hc 2 (by decide),hc 3 (by decide),hc 4 (by decide),hc 5 (by decide),hc 6 (by decide),hc 7 (by decide)⟩
def shN (l:List Nd):Prop:=∀ x∈l,x.t.length≤140737488351232∧x.n.length≤140737488351232
theorem depth_of (ao:Option Addr) (cap:Nat) (l:List Nd) (w:World) (hv:Nw w ao l) (hn:l.length≤140737488351232) (hs:shN l) (hT:Tabs w) :
  Calls Tryz.prog 113 #[.slice ao l.length cap] w fun e w'=>e=.returned (.int .i64 (depN mayN l:Int))∧Below w.heap.size w w' :=
 depth_any mayN ao cap l w hv hn z7w (fun x hx W h=>mayBe_any x W (hT.later h) (hs x hx).1 (hs x hx).2)
theorem right_of (ao:Option Addr) (cap:Nat) (l:List Nd) (w:World) (hv:Nw w ao l) (hn:l.length≤140737488351232) (hs:shN l) (hT:Tabs w) :
  Calls Tryz.prog 59 #[.slice ao l.length cap] w fun e w'=>e=.returned (.bool (decide (0<depN mayN l)))∧Below w.heap.size w w':=by
 have D:=depth_of ao cap l w hv hn hs hT
 generalize depN mayN l=d at *
 have e:decide (0<d)=decide ((0:Int)<(d:Int)):=by simp
 rw [e]
 clear e hv hs hT
 go_enter Tryz.func59,Tryz.ntmps59
 go_wp2_with (go_at_call 113;refine D.mono ?_;rintro e w1 ⟨rfl,b1⟩)
 go_ret
 exact ⟨by show Ending.returned _=_;congr 2;simp,b1⟩
end Go.Proofs.YtibbenhplmmmiaaGreatDoor

namespace Go.Proofs.YtibbenhplmmmiaaGreatDoor
open Go.ChangeShapes Go.WideShapes Go.ChangeAt Go.WideMaps Go.WideElems Go.RowKit Go.Shelf Go.Lib
theorem sh_of {H:Type} {ts:List TypeId} {ds:List (DataW H)} {j:Nat} {d:DataW H} {l:List Nd} (h:(DataW.weightsEach Tryz.prog ts ds).all (·≤reachBytes)=true) (ht:ts[j]?=some 44) (hd:ds[j]?=some d)
  (hl:∀ v∈l,v.t.length∈d.weights Tryz.prog 44∧v.n.length∈d.weights Tryz.prog 44):shN l:=by
 intro x hx
 have h1:=List.all_eq_true.1 h _ (DataW.weights_mem_each ht hd _ (hl x hx).1)
 have h2:=List.all_eq_true.1 h _ (DataW.weights_mem_each ht hd _ (hl x hx).2)
 simp only [decide_eq_true_eq] at h1 h2
 exact ⟨h1,h2⟩
end Go.Proofs.YtibbenhplmmmiaaGreatDoor

namespace Go.Proofs.YtibbenhplmmmiaaGreatDoor
open Go.RowKit Go.Shelf
attribute [local go_sem] z0e z0b z0c z0f z0m z0k z0h z0d z0g
theorem res_drop (l:List UInt8) (k:Nat) (h:k<resW.length):(resW.drop k).contains l=(resW[k]==l || (resW.drop (k+1)).contains l):=by
 rw [List.drop_eq_getElem_cons h,List.contains_cons]
 congr 1
 rw [Bool.eq_iff_iff,beq_iff_eq,beq_iff_eq]
 exact ⟨fun h=>h.symm,fun h=>h.symm⟩
theorem rres_any (B:ByteArray) (w:World):Calls Tryz.prog 282 #[.string B] w fun e w'=>e=.returned (.bool (resL B.toList))∧Below w.heap.size w w':=by
 obtain ⟨R,hR⟩:∃ R,R=resL B.toList:=⟨_,rfl⟩
 rw [← hR]
 have HR:Hid ((resW.drop 0).contains B.toList=R):=hR.symm
 clear hR
 have BX:=Cbox.new w (resW.map fun t=>Value.string ⟨t.toArray⟩).toArray 9
 have A1:Below w.heap.size w (w.alloc (.cells (resW.map fun t=>Value.string ⟨t.toArray⟩).toArray 9)):=(Below.refl _ _).alloc (Nat.le_refl _) _
 have HBX:Hid (Cbox (w.alloc (.cells (resW.map fun t=>Value.string ⟨t.toArray⟩).toArray 9)) w.heap.size (resW.map fun t=>Value.string ⟨t.toArray⟩).toArray 9):=BX
 have HB:Hid (Below w.heap.size w (w.alloc (.cells (resW.map fun t=>Value.string ⟨t.toArray⟩).toArray 9))):=A1
 clear BX A1
 generalize hwx:w.alloc (.cells (resW.map fun t=>Value.string ⟨t.toArray⟩).toArray 9)=wx at HBX HB
 simp only [resW,List.map_cons,List.map_nil] at hwx
 go_enter Tryz.func282,Tryz.ntmps282
 go_wp2
 try rw [hwx]
 clear hwx
 go_loopw [4] (fun r wr=>∃ k:Nat,r=.int .i64 (k:Int)∧k≤41∧wr=wx∧Hid ((resW.drop k).contains B.toList=R)) (fun r _=>41 - (intOf r).toNat)
 case atStart=>exact ⟨0,rfl,Nat.zero_le _,rfl,HR⟩
 case round =>
  obtain ⟨k,rfl,hk,rfl,hH⟩:=hrel
  by_cases hlt:k<41
  ·have hlt':(k:Int)<41:=by omega
   have k0:(0:Int)≤(k:Int):=by omega
   have hkl:k<resW.length:=hlt
   have ck:=HBX.out.at k
   rw [List.getElem?_toArray,List.getElem?_map,List.getElem?_eq_getElem hkl] at ck
   have gl:=HBX.out.lt
   have hst:=hH.out
   rw [res_drop _ _ hkl] at hst
   obtain ⟨S,hS⟩:∃ S:ByteArray,S=⟨resW[k].toArray⟩:=⟨_,rfl⟩
   have eS:S.toList=resW[k]:=by rw [hS,ByteArray.toList_eq]
   have ck':wr.cell? ⟨w.heap.size,k,none⟩=some (.string S):=by rw [hS];exact ck
   rw [← eS] at hst
   have HST:Hid ((S.toList==B.toList || (resW.drop (k+1)).contains B.toList)=R):=hst
   clear ck hst hH HR hS eS
   by_cases he:S.toList=B.toList
   ·have he':(S.toList==B.toList)=true:=by rw [beq_iff_eq];exact he
    have HF:Hid (R=true):=by show R=true;rw [← HST.out,he',Bool.true_or]
    clear HST he
    go_wp2
    go_ret
    exact ⟨by have h:=HF.out;subst h;rfl,HB.out⟩
   ·have he':(S.toList==B.toList)=false:=by rw [beq_eq_false_iff_ne];exact he
    have HF:Hid ((resW.drop (k+1)).contains B.toList=R):=by show _=R;rw [← HST.out,he',Bool.false_or]
    clear HST he
    go_wp2
    exact ⟨⟨k+1,by rw [cst1],by omega,(by first|trivial|rfl),HF⟩,by simp [intOf];omega⟩
  ·have hlt':¬ (k:Int)<41:=by omega
   have HF:Hid (R=false):=by
    show R=false
    rw [← hH.out,List.drop_eq_nil_of_le (by show 41≤k;omega)]
    rfl
   clear hH HR
   go_wp2
   go_ret
   exact ⟨by have h:=HF.out;subst h;rfl,HB.out⟩
theorem rfree_any (l:List UInt8) (w:World) (A:∀ W,Calls Tryz.prog 281 #[.string ⟨l.toArray⟩] W fun e w'=>e=.returned (.bool (z7v l))∧W=w'):Calls Tryz.prog 244 #[.string ⟨l.toArray⟩] w fun e w'=>e=.returned (.bool (z5u l))∧Below w.heap.size w w':=by
 have B:=fun W=>rres_any ⟨l.toArray⟩ W
 have e:(ByteArray.mk l.toArray).toList=l:=by rw [ByteArray.toList_eq]
 rw [e] at B
 clear e
 unfold z5u
 generalize ByteArray.mk l.toArray=S at *
 generalize z7v l=b at *
 cases b with
 | false =>
  clear B
  go_enter Tryz.func244,Tryz.ntmps244
  go_wp2_with (go_at_call 281;refine (A _).mono ?_;rintro e w' ⟨rfl,rfl⟩)
  go_ret
  exact ⟨rfl,Below.refl _ _⟩
 | true =>
  generalize resL l=r at *
  go_enter Tryz.func244,Tryz.ntmps244
  go_wp2_with (first
   | (go_at_call 281;refine (A _).mono ?_;rintro e w' ⟨rfl,rfl⟩)
   | (go_at_call 282;refine (B _).mono ?_;rintro e w' ⟨rfl,bb⟩))
  go_ret
  exact ⟨rfl,bb⟩
theorem lit_doc (v:Va):litV v=(vr v&&(!(v.k==5)&&!((v.k==1 || v.k==2)&&decide (v.n<0)))):=by
 unfold litV
 cases h:vr v with
 | false=>rfl
 | true =>
  have hok:=(z2f v).1 h
  unfold vok at hok
  rw [Bool.true_and,Bool.true_and,Bool.eq_iff_iff]
  simp only [Bool.and_eq_true,Bool.not_eq_true',beq_eq_false_iff_ne,decide_eq_true_eq,Bool.and_eq_false_iff,Bool.or_eq_false_iff,decide_eq_false_iff_not]
  constructor
  ·rintro ⟨h1,h2⟩
   exact ⟨h1,.inr (by omega)⟩
  ·rintro ⟨h1,h2⟩
   refine ⟨h1,?_⟩
   rcases h2 with h2|h2 <;> omega
theorem rlit_any (v:Va) (w:World):Calls Tryz.prog 243 #[vv v] w fun e w'=>e=.returned (.bool (litV v))∧Below w.heap.size w w':=by
 have A:∀ W,Calls Tryz.prog 13 #[va v.k v.n v.m ⟨v.b.toArray⟩] W fun e w'=>e=.returned (.bool (vr v))∧Below W.heap.size W w':=fun W=>rright_any v.k v.n v.m ⟨v.b.toArray⟩ W
 rw [lit_doc]
 obtain ⟨vk,vn,vm,vb⟩:=v
 generalize vr ⟨vk,vn,vm,vb⟩=r at *
 simp only at A ⊢
 have Z:=Cbox.new w #[.int .i64 vk,.int .i64 vn,.int .i64 vm,.string ⟨vb.toArray⟩] 23
 have A0:=(Below.refl w.heap.size w).alloc (Nat.le_refl _) (.cells #[.int .i64 vk,.int .i64 vn,.int .i64 vm,.string ⟨vb.toArray⟩] 23)
 cases r with
 | false =>
  clear Z
  go_enter Tryz.func243,Tryz.ntmps243
  go_wp2_with (go_at_call 13;refine (A _).mono ?_;rintro e w1 ⟨rfl,b1⟩;have B1:=A0.trans (b1.mono A0.size))
  go_ret
  exact ⟨rfl,B1⟩
 | true =>
  rw [Bool.true_and]
  by_cases h5:vk=5
  ·subst h5
   go_enter Tryz.func243,Tryz.ntmps243
   go_wp2_with (go_at_call 13;refine (A _).mono ?_;rintro e w1 ⟨rfl,b1⟩;have B1:=A0.trans (b1.mono A0.size);have z0:=(Z.later b1).at 0;have z1:=(Z.later b1).at 1;have zl:=(Z.later b1).lt)
   go_ret
   exact ⟨rfl,B1⟩
  have h5':¬ vk=5:=h5
  by_cases h1:vk=1
  ·subst h1
   by_cases h0:vn<0
   ·go_enter Tryz.func243,Tryz.ntmps243
    go_wp2_with (go_at_call 13;refine (A _).mono ?_;rintro e w1 ⟨rfl,b1⟩;have B1:=A0.trans (b1.mono A0.size);have z0:=(Z.later b1).at 0;have z1:=(Z.later b1).at 1;have zl:=(Z.later b1).lt)
    go_ret
    exact ⟨by simp [h0],B1⟩
   ·go_enter Tryz.func243,Tryz.ntmps243
    go_wp2_with (go_at_call 13;refine (A _).mono ?_;rintro e w1 ⟨rfl,b1⟩;have B1:=A0.trans (b1.mono A0.size);have z0:=(Z.later b1).at 0;have z1:=(Z.later b1).at 1;have zl:=(Z.later b1).lt)
    go_ret
    exact ⟨by simp,B1⟩
  have h1':(vk==1)=false:=by rw [beq_eq_false_iff_ne];exact h1
  by_cases h2:vk=2
  ·subst h2
   by_cases h0:vn<0
   ·go_enter Tryz.func243,Tryz.ntmps243
    go_wp2_with (go_at_call 13;refine (A _).mono ?_;rintro e w1 ⟨rfl,b1⟩;have B1:=A0.trans (b1.mono A0.size);have z0:=(Z.later b1).at 0;have z1:=(Z.later b1).at 1;have zl:=(Z.later b1).lt)
    go_ret
    exact ⟨by simp [h0],B1⟩
   ·go_enter Tryz.func243,Tryz.ntmps243
    go_wp2_with (go_at_call 13;refine (A _).mono ?_;rintro e w1 ⟨rfl,b1⟩;have B1:=A0.trans (b1.mono A0.size);have z0:=(Z.later b1).at 0;have z1:=(Z.later b1).at 1;have zl:=(Z.later b1).lt)
    go_ret
    exact ⟨by simp,B1⟩
  have h2':(vk==2)=false:=by rw [beq_eq_false_iff_ne];exact h2
  go_enter Tryz.func243,Tryz.ntmps243
  go_wp2_with (go_at_call 13;refine (A _).mono ?_;rintro e w1 ⟨rfl,b1⟩;have B1:=A0.trans (b1.mono A0.size);have z0:=(Z.later b1).at 0;have z1:=(Z.later b1).at 1;have zl:=(Z.later b1).lt)
  go_ret
  have e5:(vk==5)=false:=by rw [beq_eq_false_iff_ne];exact h5
  exact ⟨by simp [e5,h1',h2'];exact h5,B1⟩
end Go.Proofs.YtibbenhplmmmiaaGreatDoor
