/-
  Rows of values as they lie in memory; the contract of datum.checked.
  The contract of codec.Text (texts that fit); a value's bytes.
  The contracts of datum.appendValue and datum.Put.
  The contract of datum.Put.
  The contract of longstoplaw04.knows: whatever lies in memory, it answers true, and nothing that was there has changed.
  What every claim of this seat shares: the listed tables as the walks ask for them, and values that come in.
  The contracts of the library's Compare and Or, and of datum's byParts.
-/
import Derived.Test.YtljkonkfeiojnaaGreatDoorVRight2
import Derived.Test.YtljkonkfeiojnaaGreatDoorMaLJumps
import Derived.Test.YtljkonkfeiojnaaGreatDoorVQuote
import Derived.Test.YtljkonkfeiojnaaGreatDoorRows
import Derived.Test.YtljkonkfeiojnaaGreatDoorCards
import Derived.Test.YtljkonkfeiojnaaGreatDoorTie
import Derived.ProofKit
import Derived.LaidMore
import Derived.OpenShut
import Derived.ShutString
import Derived.Stop.Joined
import Derived.Lib.LaidTab
import Derived.Lib.LaidU8T
import Derived.Lib.LaidIn
import Derived.Lib.SmallJoins
import Derived.PinnedBridge
import Derived.Lay
import Derived.LaidOnce
import Derived.SevenTiedAt
import Derived.ChangeSame
import Derived.SizedLaws
import Derived.Deep.Slices
set_option maxHeartbeats 2000000
set_option maxRecDepth 100000
namespace Go.Proofs.YtljkonkfeiojnaaGreatDoor
open Go.RowKit Go.Shelf
attribute [local go_sem] z0f z0b z0c z0e z0m z0k z0h z0d z0g
def At4 (w:World) (b o:Nat) (v:Va):Prop :=
 w.cell? ⟨b,o,none⟩=some (.int .i64 v.k)∧w.cell? ⟨b,o+1,none⟩=some (.int .i64 v.n)∧w.cell? ⟨b,o+2,none⟩=some (.int .i64 v.m)∧w.cell? ⟨b,o+3,none⟩=some (.string ⟨v.b.toArray⟩)
theorem At4.lt {w:World} {b o:Nat} {v:Va} (h:At4 w b o v):b<w.heap.size:=World.block_lt_of_cell? w _ h.1
theorem At4.later {w w':World} {b o:Nat} {v:Va} (h:At4 w b o v) (hb:Below w.heap.size w w'):At4 w' b o v :=
 ⟨by rw [hb.cell (p:=⟨b,o,none⟩) h.lt];exact h.1,by rw [hb.cell (p:=⟨b,o+1,none⟩) h.lt];exact h.2.1,by rw [hb.cell (p:=⟨b,o+2,none⟩) h.lt];exact h.2.2.1,by rw [hb.cell (p:=⟨b,o+3,none⟩) h.lt];exact h.2.2.2⟩
def Vs (w:World) (ao:Option Addr) (l:List Va):Prop :=
 0<l.length→∃ b off,ao=some ⟨b,off,none⟩∧∀ i (h:i<l.length),At4 w b (off+i*4) l[i]
theorem Vs.later {w w':World} {ao:Option Addr} {l:List Va} (h:Vs w ao l) (hb:Below w.heap.size w w'):Vs w' ao l:=by
 intro hp
 obtain ⟨b,off,e,hc⟩:=h hp
 exact ⟨b,off,e,fun i hi=>(hc i hi).later hb⟩
def vr (v:Va):Bool:=vrt v.k v.n v.m ⟨v.b.toArray⟩
theorem z3u (v:Va):vr v=true↔vok Lib.validD v:=vrt_iff v.k v.n v.m ⟨v.b.toArray⟩
abbrev vv (v:Va):Value:=va v.k v.n v.m ⟨v.b.toArray⟩
def ckE (l:List Va):Int:=if 64<l.length then 6 else if l.all vr then 0 else 1
theorem checked_any (ao:Option Addr) (cap:Nat) (l:List Va) (w:World) (hT:Tabs w) (hv:Vs w ao l) (hl:l.length≤9223372036854775807) :
  Calls Tryz.prog 33 #[.slice ao l.length cap] w fun e w'=>e=.returned (.int .i64 (ckE l))∧Below w.heap.size w w':=by
 by_cases hbig:64<l.length
 ·have hb':(64:Int)<(l.length:Int):=by omega
  have e:ckE l=6:=by unfold ckE;rw [if_pos hbig]
  rw [e]
  generalize l.length=n at *
  go_enter Tryz.func33,Tryz.ntmps33
  go_wp2
  go_ret
  exact ⟨rfl,Below.refl _ _⟩
 ·have hb':¬ (64:Int)<(l.length:Int):=by omega
  have hck:ckE l=if l.all vr then 0 else 1:=by unfold ckE;rw [if_neg hbig]
  obtain ⟨E,hE⟩:∃ E,E=ckE l:=⟨_,rfl⟩
  rw [← hE]
  rw [hck] at hE
  have HE:Hid (E=if l.all vr then 0 else 1):=hE
  obtain ⟨n,hn⟩:∃ n,l.length=n:=⟨_,rfl⟩
  rw [hn] at hb' hl ⊢
  have HN:Hid (l.length=n):=hn
  clear hck hE hbig hn
  go_enter Tryz.func33,Tryz.ntmps33
  go_wp2
  go_loopw [10] (fun r wr=>∃ k:Nat,r=.int .i64 (k:Int)∧k≤n∧Below w.heap.size w wr∧Hid (∀ i (h:i<l.length),i<k→vr l[i]=true)) (fun r _=>n - (intOf r).toNat)
  case atStart=>exact ⟨0,rfl,Nat.zero_le _,Below.refl _ _,fun i _ h=>by omega⟩
  case round =>
   obtain ⟨k,rfl,hk,hB,hA⟩:=hrel
   have sB:=hB.size
   by_cases hlt:k<n
   ·have hlt':(k:Int)<(n:Int):=by omega
    have hkl:k<l.length:=by rw [HN.out];exact hlt
    obtain ⟨b,off,rfl,hc⟩:=hv (by omega)
    obtain ⟨c0,c1,c2,c3⟩:=((hc k (by omega)).later hB)
    have hg:=(hc k (by omega)).lt
    have hg':b<wr.heap.size:=by omega
    have hT':=hT.later hB
    have R:∀ W,Grew wr W→Calls Tryz.prog 22 #[vv l[k]] W fun e w'=>e=.returned (.bool (vr l[k]))∧Below W.heap.size W w':=fun W h=>z2u _ _ _ _ W (hT'.later h.below)
    have hvk:l[k]=l[k]:=rfl
    obtain ⟨⟨vk,vn,vm,vb⟩,he⟩:∃ v:Va,v=l[k]:=⟨_,rfl⟩
    rw [← he] at c0 c1 c2 c3 R
    have HV:Hid (Va.mk vk vn vm vb=l[k]):=he
    clear hc hT' hT he hvk hb'
    cases hvr:vr ⟨vk,vn,vm,vb⟩
    ·rw [hvr] at R
     go_wp2_with (go_at_call 22;refine (R _ gA).mono ?_;rintro e w2 ⟨rfl,hb2⟩)
     go_ret
     have hall:(l.all vr)=false:=by
      rw [List.all_eq_false]
      exact ⟨l[k]'(by have:=HN.out;omega),List.getElem_mem _,by rw [← HV.out,hvr];simp⟩
     refine ⟨by rw [HE.out,hall];rfl,?_⟩
     exact hB.trans ((Below.mono (z0a (Grew.below gA) hb2)) sB)
    ·rw [hvr] at R
     go_wp2_with (go_at_call 22;refine (R _ gA).mono ?_;rintro e w2 ⟨rfl,hb2⟩)
     go_roundw
     case rel =>
      refine ⟨k+1,by go_num,by omega,hB.trans ((Below.mono (z0a (Grew.below gA) hb2)) sB),fun i hi hik=>?_⟩
      by_cases h:i<k
      ·exact hA.out i hi h
      ·have:i=k:=by omega
       subst this
       rw [← HV.out,hvr]
     case measure=>simp [intOf];omega
   ·have hlt':¬ (k:Int)<(n:Int):=by omega
    go_wp2
    go_ret
    have hall:(l.all vr)=true:=by
     rw [List.all_eq_true]
     intro v hv'
     obtain ⟨i,hi,rfl⟩:=List.getElem_of_mem hv'
     exact hA.out i hi (by have:=HN.out;omega)
    exact ⟨by rw [HE.out,hall];rfl,hB⟩
end Go.Proofs.YtljkonkfeiojnaaGreatDoor

namespace Go.Proofs.YtljkonkfeiojnaaGreatDoor
open Go.RowKit
end Go.Proofs.YtljkonkfeiojnaaGreatDoor

namespace Go.Proofs.YtljkonkfeiojnaaGreatDoor
open Go.RowKit
attribute [local go_sem] z0f z0b z0c z0e z0m z0k z0h z0d z0g
def Box (w:World) (p:Nat) (v:Va):Prop:=w.heap[p]?=some (.cells #[.int .i64 v.k,.int .i64 v.n,.int .i64 v.m,.string ⟨v.b.toArray⟩] 44 (0,0))
theorem Box.lt {w:World} {p:Nat} {v:Va} (h:Box w p v):p<w.heap.size:=by
 by_cases hp:p<w.heap.size
 ·exact hp
 ·unfold Box at h
  rw [Array.getElem?_eq_none (by omega)] at h
  cases h
theorem Box.later {w w':World} {p:Nat} {v:Va} (h:Box w p v) (hb:Below w.heap.size w w'):Box w' p v:=by
 unfold Box
 rw [hb.block p h.lt]
 exact h
theorem Box.at4 {w:World} {p:Nat} {v:Va} (h:Box w p v):At4 w p 0 v :=
 ⟨by rw [cell_of_row w p 0 _ _ (0,0) h];rfl,by rw [cell_of_row w p (0+1) _ _ (0,0) h];rfl,by rw [cell_of_row w p (0+2) _ _ (0,0) h];rfl,by rw [cell_of_row w p (0+3) _ _ (0,0) h];rfl⟩
theorem Box.kept {w w':World} {p base:Nat} {v:Va} {x:Value} {bs:List UInt8} (h:Box w p v) (ho:Own w base x bs) (hg:w.grownBy w' x.ownBlock):Box w' p v:=by
 unfold Box
 rw [hg.block p h.lt ?_]
 ·exact h
 ·intro e
  obtain ⟨h1,h2⟩:=ho
  rcases h2 with ⟨rfl,_⟩|⟨g,cap,cur,rfl,_,hg',_⟩
  ·simp [Value.ownBlock] at e
  ·simp [Value.ownBlock] at e
   subst e
   unfold Box at h
   rw [hg'] at h
   simp at h
theorem Box.free {w:World} {p:Nat} {v:Va} (h:Box w p v) (j:Nat):w.frozen? ⟨p,j,none⟩=false:=by
 unfold Box at h
 simp [World.frozen?,h]
theorem Box.new (w:World) (k n m:Int) (b:List UInt8):Box (w.alloc (.cells #[.int .i64 k,.int .i64 n,.int .i64 m,.string ⟨b.toArray⟩] 44)) w.heap.size ⟨k,n,m,b⟩:=by
 unfold Box
 show (w.heap.push _)[w.heap.size]?=_
 simp
end Go.Proofs.YtljkonkfeiojnaaGreatDoor

namespace Go.Proofs.YtljkonkfeiojnaaGreatDoor
open Go.RowKit Go.Shelf
attribute [local go_sem] z0f z0b z0c z0e z0m z0k z0h z0d z0g
def vin (v:Va):Prop:=(-9223372036854775808≤v.n∧v.n≤9223372036854775807)∧(-9223372036854775808≤v.m∧v.m≤9223372036854775807)
def many (f:Va→List UInt8) (l:List Va):List UInt8:=l.flatMap f
theorem many_take (f:Va→List UInt8) (l:List Va) (k:Nat) (h:k<l.length):many f (l.take (k+1))=many f (l.take k)++f l[k]:=by
 unfold many
 rw [← List.take_append_getElem h]
 simp only [List.flatMap_append,List.flatMap_cons,List.flatMap_nil,List.append_nil]
theorem many_len (f:Va→List UInt8) (c:Nat) (l:List Va) (h:∀ v∈l,(f v).length≤c):(many f l).length≤c*l.length:=by
 induction l with
 | nil=>simp [many]
 | cons v l ih =>
  have h1:=h v (by simp)
  have h2:=ih fun v hv=>h v (by simp [hv])
  simp only [many,List.flatMap_cons,List.length_append,List.length_cons,Nat.mul_succ] at *
  omega
theorem ba_extract1 (c:UInt8) (l:List UInt8):((ByteArray.mk (c::l).toArray).extract 0 1).toList=[c]:=by
 have e:(ByteArray.mk (c::l).toArray).extract 0 1=⟨#[c]⟩:=by
  apply ByteArray.ext
  simp [ByteArray.data_extract]
 rw [e,ByteArray.toList_eq]
theorem prefix0_any (s:ByteArray) (p:UInt8) (w:World) (hs:s.size≤9223372036854775806) :
  Calls Tryz.prog 199 #[.string s,.string ⟨#[p]⟩] w fun e w'=>e=.returned (.bool (s.data.toList.head?==some p))∧w=w':=by
 obtain ⟨⟨l⟩⟩:=s
 match l,hs with
 | [],_ =>
  go_enter Tryz.func199,Tryz.ntmps199
  go_wp2
  all_goals go_ret
  all_goals exact ⟨rfl,rfl⟩
 | c::l,hs =>
  have hsz:(ByteArray.mk (c::l).toArray).size=l.length+1:=rfl
  have hx:(((ByteArray.mk (c::l).toArray).extract 0 1).toList==[p])=(c==p):=by
   rw [ba_extract1]
   simp
  have e:((ByteArray.mk (c::l).toArray).data.toList.head?==some p)=(c==p):=by simp
  rw [e]
  have h1:(1:Int)≤(l.length:Int)+1:=by omega
  have h2:1≤l.length+1:=by omega
  rw [hsz] at hs
  change (((ByteArray.mk (c::l).toArray).extract 0 1).toList==[p])=(c==p) at hx
  generalize ByteArray.mk (c::l).toArray=B at *
  generalize l.length=n at *
  generalize (c==p)=g at *
  go_enter Tryz.func199,Tryz.ntmps199
  go_wp2
  all_goals go_ret
  all_goals exact ⟨rfl,rfl⟩
theorem z6y (s:ByteArray) (p:UInt8) (w:World) (hs:s.size≤9223372036854775806) :
  Calls Tryz.prog 175 #[.string s,.string ⟨#[p]⟩] w fun e w'=>e=.returned (.bool (s.data.toList.head?==some p))∧w=w':=by
 have P:=fun W=>prefix0_any s p W hs
 generalize (s.data.toList.head?==some p)=g at *
 go_enter Tryz.func175,Tryz.ntmps175
 go_wp2_with (go_at_call 199;refine (P _).mono ?_;rintro e w' ⟨rfl,rfl⟩)
 go_ret
 exact ⟨rfl,rfl⟩
abbrev T0:ByteArray:=⟨#[105,116,39,115]⟩
abbrev S0:ByteArray:=⟨#[39,105,116,39,39,115,39]⟩
abbrev X0:Va:=⟨3,0,0,[105,116,39,115]⟩
end Go.Proofs.YtljkonkfeiojnaaGreatDoor

namespace Go.Proofs.YtljkonkfeiojnaaGreatDoor
open Go.ChangeShapes Go.WideShapes Go.ChangeAt Go.WideMaps Go.WideElems Go.RowKit Go.Shelf Go.Lib
theorem own:ownKnob Tryz.prog.godebug=none:=by kernel_rfl
theorem laidOut:laidOutB Tryz.prog=true:=by kernel_rfl
theorem tabs_of {W:World} (h1:VarReads Tryz.prog W "unicode/utf8.first" Rows.laid_unicode_utf8_first) (h2:VarReads Tryz.prog W "unicode/utf8.acceptRanges" Rows.laid_unicode_utf8_acceptRanges):Tabs W :=
 utf8Tabs_of_readsT (U8Types.of196 Tryz.laysValid) ⟨by kernel_rfl,by kernel_rfl,by kernel_rfl,by kernel_rfl,by kernel_rfl,by kernel_rfl,by kernel_rfl⟩
  (Pinned.utf8First_eq▸h1) ((show Rows.laid_unicode_utf8_acceptRanges=Lib.acceptData by kernel_rfl)▸h2)
theorem in_i64 {a:Int} (h:(Lit.int .i64 a).wf=true):-9223372036854775808≤a∧a≤9223372036854775807:=bounds_i64 h
theorem val_cells {H:Type} {enc:TypeId × Value→H} {W:World} {fuel:Nat} {cs:List Value} {x:DataW H × List MemPlace}
  (hf:DataW.trod enc Tryz.prog W 0 (fun _=>true) true fuel 44 cs=some x) :
  ∃ v:Va,cs=[.int .i64 v.k,.int .i64 v.n,.int .i64 v.m,.string ⟨v.b.toArray⟩]∧vin v∧(-9223372036854775808≤v.k∧v.k≤9223372036854775807)∧v.b.length≤maxLen:=by
 obtain ⟨y0,y1,y2,y3,m,_,hl,h0,h1,h2,h3⟩:=Go.Joins.trod_struct4 Tryz.underlying44 hf
 have hc:Tryz.prog.cellsOf 44=4:=by kernel_rfl
 rw [hc] at hl
 match cs,hl with
 | [c0,c1,c2,c3],_ =>
  obtain ⟨a,ea,rfl,wa⟩:=DataW.trod_int Tryz.underlying3 h0
  obtain ⟨b,eb,rfl,wb⟩:=DataW.trod_int Tryz.underlying3 h1
  obtain ⟨c,ec,rfl,wc⟩:=DataW.trod_int Tryz.underlying3 h2
  obtain ⟨s,es,rfl,ws⟩:=DataW.trod_string Tryz.underlying9 h3
  have c1':Tryz.prog.cellsOf 3=1:=by kernel_rfl
  have c2':Tryz.prog.cellsOf 9=1:=by kernel_rfl
  rw [c1'] at ea eb ec
  rw [c2'] at es
  simp at ea eb ec es
  subst ea;subst eb;subst ec;subst es
  exact ⟨⟨a,b,c,s.data.toList⟩,rfl,⟨in_i64 wb,in_i64 wc⟩,in_i64 wa,ws⟩
end Go.Proofs.YtljkonkfeiojnaaGreatDoor

namespace Go.Proofs.YtljkonkfeiojnaaGreatDoor
open Go.RowKit Go.Shelf
attribute [local go_sem] z0f z0b z0c z0e z0m z0k z0h z0d z0g
theorem nanI_any (x:Int) (w:World):Calls Tryz.prog 191 #[.int .i64 x] w fun e w'=>e=.returned (.bool false)∧w=w':=by
 go_enter Tryz.func191,Tryz.ntmps191
 go_wp2
 all_goals go_ret
 all_goals exact ⟨rfl,rfl⟩
theorem nanS_any (x:ByteArray) (w:World):Calls Tryz.prog 213 #[.string x] w fun e w'=>e=.returned (.bool false)∧w=w':=by
 go_enter Tryz.func213,Tryz.ntmps213
 go_wp2
 all_goals go_ret
 all_goals exact ⟨rfl,rfl⟩
theorem cmpI_any (x y:Int) (w:World):Calls Tryz.prog 162 #[.int .i64 x,.int .i64 y] w fun e w'=>e=.returned (.int .i64 (numc x y))∧w=w':=by
 by_cases h:x<y
 ·rw [show numc x y=-1 by unfold numc;rw [if_pos h]]
  go_enter Tryz.func162,Tryz.ntmps162
  go_wp2_with (go_at_call 191;refine (nanI_any _ _).mono ?_;rintro e w' ⟨rfl,rfl⟩)
  all_goals go_ret
  all_goals exact ⟨rfl,rfl⟩
 ·by_cases h':y<x
  ·rw [show numc x y=1 by unfold numc;rw [if_neg h,if_pos h']]
   go_enter Tryz.func162,Tryz.ntmps162
   go_wp2_with (go_at_call 191;refine (nanI_any _ _).mono ?_;rintro e w' ⟨rfl,rfl⟩)
   all_goals go_ret
   all_goals exact ⟨rfl,rfl⟩
  ·rw [show numc x y=0 by unfold numc;rw [if_neg h,if_neg (by omega)]]
   go_enter Tryz.func162,Tryz.ntmps162
   go_wp2_with (go_at_call 191;refine (nanI_any _ _).mono ?_;rintro e w' ⟨rfl,rfl⟩)
   all_goals go_ret
   all_goals exact ⟨rfl,rfl⟩
theorem lexc_eq (x y:List UInt8):(x==y)=decide (lexc x y=0):=by
 by_cases h:x=y
 ·subst h;simp [lexc_refl]
 ·have:lexc x y≠0:=fun h0=>h (lexc_zero h0)
  simp [h,this]
theorem cmpS_any (x y:ByteArray) (w:World):Calls Tryz.prog 198 #[.string x,.string y] w fun e w'=>e=.returned (.int .i64 (lexc x.data.toList y.data.toList))∧w=w':=by
 have h1:=lexc_less x.data.toList y.data.toList
 have h2:=lexc_eq x.data.toList y.data.toList
 have h3:=lexc_range x.data.toList y.data.toList
 have l1:Op.bytesLess x.toList y.toList=decide (lexc x.data.toList y.data.toList<0):=by rw [Lib.toList_data,Lib.toList_data];exact h1
 have l2:(x.toList==y.toList)=decide (lexc x.data.toList y.data.toList=0):=by rw [Lib.toList_data,Lib.toList_data];exact h2
 generalize lexc x.data.toList y.data.toList=c at *
 rcases h3 with rfl|rfl|rfl
 ·have l1':Op.bytesLess x.toList y.toList=true:=l1
  clear h1 h2 l1 l2
  go_enter Tryz.func198,Tryz.ntmps198
  go_wp2_with (go_at_call 213;refine (nanS_any _ _).mono ?_;rintro e w' ⟨rfl,rfl⟩)
  all_goals go_ret
  all_goals exact ⟨rfl,rfl⟩
 ·have l1':Op.bytesLess x.toList y.toList=false:=l1
  have l2':(x.toList==y.toList)=true:=l2
  clear h1 h2 l1 l2
  go_enter Tryz.func198,Tryz.ntmps198
  go_wp2_with (go_at_call 213;refine (nanS_any _ _).mono ?_;rintro e w' ⟨rfl,rfl⟩)
  all_goals go_ret
  all_goals exact ⟨rfl,rfl⟩
 ·have l1':Op.bytesLess x.toList y.toList=false:=l1
  have l2':(x.toList==y.toList)=false:=l2
  clear h1 h2 l1 l2
  go_enter Tryz.func198,Tryz.ntmps198
  go_wp2_with (go_at_call 213;refine (nanS_any _ _).mono ?_;rintro e w' ⟨rfl,rfl⟩)
  all_goals go_ret
  all_goals exact ⟨rfl,rfl⟩
def orL:List Int→Int
 | []=>0
 | z::l=>orr z (orL l)
theorem orL_drop (zs:List Int) (k:Nat) (h:∀ i (h:i<zs.length),i<k→zs[i]=0):orL zs=orL (zs.drop k):=by
 induction k generalizing zs with
 | zero=>rfl
 | succ k ih =>
  cases zs with
  | nil=>rfl
  | cons z l =>
   have h0:z=0:=h 0 (by simp) (by omega)
   subst h0
   simp only [orL,orr_zero,List.drop_succ_cons]
   exact ih l fun i hi hk=>h (i+1) (by simp;omega) (by omega)
theorem or_of (b n:Nat) (zs:List Int) (w:World) (hn:zs.length=n) (hl:n≤1000) (hc:∀ i (h:i<zs.length),w.cell? ⟨b,i,none⟩=some (.int .i64 zs[i])) :
  Calls Tryz.prog 197 #[.slice (some ⟨b,0,none⟩) n n] w fun e w'=>e=.returned (.int .i64 (orL zs))∧w=w':=by
 obtain ⟨R,hR⟩:∃ R,R=orL zs:=⟨_,rfl⟩
 rw [← hR]
 have HN:Hid (zs.length=n):=hn
 have HC:Hid (∀ i (h:i<zs.length),w.cell? ⟨b,i,none⟩=some (.int .i64 zs[i])):=hc
 have HR:Hid (R=orL zs):=hR
 clear hn hc hR
 go_enter Tryz.func197,Tryz.ntmps197
 go_wp2
 go_loopw [8] (fun r wr=>∃ k:Nat,r=.int .i64 (k:Int)∧k≤n∧wr=w∧Hid (∀ i (h:i<zs.length),i<k→zs[i]=0)) (fun r _=>n - (intOf r).toNat)
 case atStart=>exact ⟨0,rfl,Nat.zero_le _,rfl,fun i _ h=>by omega⟩
 case round =>
  obtain ⟨k,rfl,hk,rfl,hA⟩:=hrel
  by_cases hlt:k<n
  ·have hlt':(k:Int)<(n:Int):=by omega
   have hkl:k<zs.length:=by rw [HN.out];exact hlt
   have c0:=HC.out k hkl
   have hd:=orL_drop zs k hA.out
   rw [List.drop_eq_getElem_cons hkl] at hd
   obtain ⟨z,he⟩:∃ z,z=zs[k]:=⟨_,rfl⟩
   rw [← he] at c0 hd
   have HZ:Hid (z=zs[k]):=he
   clear he
   by_cases hz:z=0
   ·have hz':(z==0)=true:=by simpa using hz
    clear hd
    go_wp2
    go_roundw
    case rel =>
     refine ⟨k+1,by go_num,by omega,by first|rfl|trivial,fun i hi hik=>?_⟩
     by_cases h:i<k
     ·exact hA.out i hi h
     ·have:i=k:=by omega
      subst this
      rw [← HZ.out,hz]
    case measure=>simp [intOf];omega
   ·have hz':(z==0)=false:=by simpa using hz
    have HR':Hid (R=z):=by
     show R=z
     rw [HR.out,hd]
     simp only [orL]
     rw [orr_ne hz]
    clear hd
    go_wp2
    go_ret
    exact ⟨by rw [HR'.out];rfl,rfl⟩
  ·have hlt':¬ (k:Int)<(n:Int):=by omega
   have HR':Hid (R=0):=by
    show R=0
    rw [HR.out,orL_drop zs k hA.out,List.drop_eq_nil_of_le (by have:=HN.out;omega)]
    rfl
   go_wp2
   go_ret
   exact ⟨by rw [HR'.out];rfl,rfl⟩
theorem z9a (k n m:Int) (b:ByteArray) (w:World):Calls Tryz.prog 171 #[va k n m b] w fun e w'=>e=.returned (.bool (k==1 || k==2))∧Grew w w':=by
 by_cases h:k=1
 ·subst h
  go_enter Tryz.func171,Tryz.ntmps171
  go_wp2
  all_goals go_ret
  all_goals exact ⟨rfl,gA⟩
 ·have h':(k==1)=false:=by simpa using h
  rw [h',Bool.false_or]
  go_enter Tryz.func171,Tryz.ntmps171
  go_wp2
  all_goals go_ret
  all_goals exact ⟨rfl,gA⟩
theorem byParts_any (k n m:Int) (b:ByteArray) (k' n' m':Int) (b':ByteArray) (w:World) :
  Calls Tryz.prog 173 #[va k n m b,va k' n' m' b'] w fun e w'=>e=.returned (.int .i64 (orL [numc k k',numc n n',numc m m',lexc b.data.toList b'.data.toList]))∧Grew w w':=by
 have I:=fun x y W=>cmpI_any x y W
 have S:=fun W=>cmpS_any b b' W
 have O:=fun (zs:List Int) (p:Nat) (W:World)=>or_of p 4 zs W
 go_enter Tryz.func173,Tryz.ntmps173
 go_upto_region 1 with fail
 go_region_held2 (fun W=>W.cell? ⟨w.heap.size,0,none⟩=some (.int .i64 k)∧W.cell? ⟨w.heap.size,1,none⟩=some (.int .i64 n)∧W.cell? ⟨w.heap.size,2,none⟩=some (.int .i64 m)∧W.cell? ⟨w.heap.size,3,none⟩=some (.string b) ∧
   W.cell? ⟨w.heap.size+1,0,none⟩=some (.int .i64 k')∧W.cell? ⟨w.heap.size+1,1,none⟩=some (.int .i64 n')∧W.cell? ⟨w.heap.size+1,2,none⟩=some (.int .i64 m')∧W.cell? ⟨w.heap.size+1,3,none⟩=some (.string b')) (simp [go_sem]) (first
  | (go_at_call 162;refine (I _ _ _).mono ?_;rintro e w' ⟨rfl,rfl⟩)
  | (go_at_call 198;refine (S _).mono ?_;rintro e w' ⟨rfl,rfl⟩)
  | (go_at_call 197;refine (O [numc k k',numc n n',numc m m',lexc b.data.toList b'.data.toList] _ _ rfl (by decide) (by intro i hi;match i,hi with
    | 0,_=>simp [go_sem]
    | 1,_=>simp [go_sem]
    | 2,_=>simp [go_sem]
    | 3,_=>simp [go_sem])).mono ?_;rintro e w' ⟨rfl,rfl⟩))
 go_wp2
 go_ret
 exact ⟨rfl,gA⟩
end Go.Proofs.YtljkonkfeiojnaaGreatDoor
