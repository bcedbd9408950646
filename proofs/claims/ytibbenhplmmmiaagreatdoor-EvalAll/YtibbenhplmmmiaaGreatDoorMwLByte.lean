/-
  The contract of expr.Reserved: whether a text is one of the reserved words.
  Nodes of expressions: operands and named, and the comparison of two nodes.
  The library's contracts laid at this program: strconv.Itoa, strings.Clone; HasSuffix, TrimSuffix, Index and Contains at one point.
  The contracts of datum.Print and of what it calls, of datum.told and datum.toldNumber: values that a literal can be.
  The contracts of datum.toldNumber, datum.told and datum.Parse at the texts of literals.
  The contract of datum.Parse at the texts of literals.
  The contracts of the lexer's small functions: byteAt, isLetter, isDigit, fitsName, the library's IndexByte, pastBlanks.
-/
import Derived.Test.YtibbenhplmmmiaaGreatDoorChecked
import Derived.Test.YtibbenhplmmmiaaGreatDoorMcDWide3
import Derived.WalkKit
import Derived.WalkSpells
import Derived.WalkLawsBesides
import Derived.Laws.IdiomStrings
import Derived.Test.YtibbenhplmmmiaaGreatDoorVLogic
import Derived.Test.YtibbenhplmmmiaaGreatDoorMbVGood
import Derived.WalkMore
import Derived.Below
import Derived.BigRegion
import Derived.Test.YtibbenhplmmmiaaGreatDoorMfDDivP
import Derived.Shelf.Strconv.Itoa3
import Derived.Shelf.Strconv.Clone
import Derived.Ground.NamesProg
import Derived.Shelf.Lay
import Derived.Test.YtibbenhplmmmiaaGreatDoorMtVCmp
import Derived.Test.YtibbenhplmmmiaaGreatDoorMaLJumps
set_option maxHeartbeats 4000000
set_option maxRecDepth 20000
namespace Go.Proofs.YtibbenhplmmmiaaGreatDoor
open Go.RowKit
def resW:List (List UInt8):=[[97,110,100],[111,114],[110,111,116],[105,115],[110,117,108,108],[116,114,117,101],[102,97,108,115,101],[115,101,108,101,99,116],[100,105,115,116,105,110,99,116],[102,114,111,109],[119,104,101,114,101],[103,114,111,117,112],[98,121],[104,97,118,105,110,103],[111,114,100,101,114],[97,115,99],[100,101,115,99],[108,105,109,105,116],[117,110,105,111,110],[97,108,108],[106,111,105,110],[108,101,102,116],[99,114,111,115,115],[111,110],[97,115],[105,110,115,101,114,116],[105,110,116,111],[118,97,108,117,101,115],[117,112,100,97,116,101],[115,101,116],[100,101,108,101,116,101],[99,114,101,97,116,101],[116,97,98,108,101],[100,114,111,112],[112,114,105,109,97,114,121],[107,101,121],[117,110,105,113,117,101],[99,104,101,99,107],[98,101,103,105,110],[99,111,109,109,105,116],[114,111,108,108,98,97,99,107]]
def resL (l:List UInt8):Bool:=resW.contains l
theorem reserved_any (B:ByteArray) (w:World):Calls Tryz.prog 302 #[.string B] w fun e w'=>e=.returned (.bool (resL B.toList))∧w=w':=by
  obtain ⟨R,hR⟩:∃ R,R=resL B.toList:=⟨_,rfl⟩
  rw [← hR]
  have HR:Hid (R=resL B.toList):=hR
  clear hR
  go_enter Tryz.func302,Tryz.ntmps302
  go_wp2
  all_goals first
    | (rename_i h1 h2;exact absurd (h1.symm.trans h2) (by decide))
    | (rename_i h1 h2;exact absurd (h2.symm.trans h1) (by decide))
    | (go_ret
       refine ⟨?_,rfl⟩
       rw [HR.out]
       unfold resL resW
       simp only [List.contains_cons,List.contains_nil,Bool.false_or,Bool.true_or,Bool.or_self, *] <;> rfl)
end Go.Proofs.YtibbenhplmmmiaaGreatDoor

namespace Go.Proofs.YtibbenhplmmmiaaGreatDoor
open Go.RowKit
attribute [local go_sem] z0e z0b z0c z0f z0m z0k z0h z0d z0g
structure Nd where
 o:Int
 t:List UInt8
 n:List UInt8
 v:Va
 a:Int
abbrev ncs (x:Nd):Array Value:=#[.int .i64 x.o,.string ⟨x.t.toArray⟩,.string ⟨x.n.toArray⟩,.int .i64 x.v.k,.int .i64 x.v.n,.int .i64 x.v.m,.string ⟨x.v.b.toArray⟩,.int .i64 x.a]
abbrev ndv (x:Nd):Value:=.agg (ncs x)
def opsN (x:Nd):Int:=if x.o=19 then x.a else if 6≤x.o then 2 else if 3≤x.o then 1 else 0
theorem operands_any (x:Nd) (w:World):Calls Tryz.prog 182 #[ndv x] w fun e w'=>e=.returned (.int .i64 (opsN x))∧Grew w w':=by
 obtain ⟨o,t,n,v,a⟩:=x
 unfold opsN
 simp only
 by_cases h1:o=19
 ·subst h1
  rw [if_pos rfl]
  go_enter Tryz.func182,Tryz.ntmps182
  go_wp2
  go_ret
  exact ⟨rfl,(Grew.refl _).alloc _⟩
 rw [if_neg h1]
 have e1:(o==19)=false:=by rw [beq_eq_false_iff_ne];exact h1
 by_cases h2:6≤o
 ·rw [if_pos h2]
  go_enter Tryz.func182,Tryz.ntmps182
  go_wp2
  go_ret
  exact ⟨rfl,(Grew.refl _).alloc _⟩
 rw [if_neg h2]
 by_cases h3:3≤o
 ·rw [if_pos h3]
  go_enter Tryz.func182,Tryz.ntmps182
  go_wp2
  go_ret
  exact ⟨rfl,(Grew.refl _).alloc _⟩
 ·rw [if_neg h3]
  go_enter Tryz.func182,Tryz.ntmps182
  go_wp2
  go_ret
  exact ⟨rfl,(Grew.refl _).alloc _⟩
abbrev vz0:Va:=⟨0,0,0,[]⟩
def namedN (x:Nd):Nd:=if x.o=1 then ⟨1,[],[],x.v,0⟩ else if x.o=2 then ⟨2,x.t,x.n,vz0,0⟩ else if x.o=19 then ⟨19,[],x.n,vz0,x.a⟩ else ⟨x.o,[],[],vz0,0⟩
theorem enamed_any (x:Nd) (w:World):Calls Tryz.prog 239 #[ndv x] w fun e w'=>e=.returned (ndv (namedN x))∧Grew w w':=by
 obtain ⟨o,t,n,v,a⟩:=x
 unfold namedN
 simp only
 by_cases h1:o=1
 ·subst h1
  rw [if_pos rfl]
  go_enter Tryz.func239,Tryz.ntmps239
  go_wp2
  refine bodyPost_ret_by (v:=ndv ⟨1,[],[],v,0⟩) ?_ rfl ⟨rfl,gA⟩
  simp [results,Tryz.results239,go_sem]
 rw [if_neg h1]
 have e1:(o==1)=false:=by rw [beq_eq_false_iff_ne];exact h1
 by_cases h2:o=2
 ·subst h2
  rw [if_pos rfl]
  go_enter Tryz.func239,Tryz.ntmps239
  go_wp2
  refine bodyPost_ret_by (v:=ndv ⟨2,t,n,vz0,0⟩) ?_ rfl ⟨rfl,gA⟩
  simp [results,Tryz.results239,go_sem]
 rw [if_neg h2]
 have e2:(o==2)=false:=by rw [beq_eq_false_iff_ne];exact h2
 by_cases h3:o=19
 ·subst h3
  rw [if_pos rfl]
  go_enter Tryz.func239,Tryz.ntmps239
  go_wp2
  refine bodyPost_ret_by (v:=ndv ⟨19,[],n,vz0,a⟩) ?_ rfl ⟨rfl,gA⟩
  simp [results,Tryz.results239,go_sem]
 ·rw [if_neg h3]
  have e3:(o==19)=false:=by rw [beq_eq_false_iff_ne];exact h3
  go_enter Tryz.func239,Tryz.ntmps239
  go_wp2
  refine bodyPost_ret_by (v:=ndv ⟨o,[],[],vz0,0⟩) ?_ rfl ⟨rfl,gA⟩
  simp [results,Tryz.results239,go_sem]
def z6b (a b:Va):Bool:=a.k==b.k&&(a.n==b.n&&(a.m==b.m&&a.b==b.b))
def sameN (x y:Nd):Bool:=x.o==y.o&&(x.t==y.t&&(x.n==y.n&&(z6b x.v y.v&&x.a==y.a)))
theorem eqNd_at (N:Nat) (k k' a a' vk vn vm vk' vn' vm':Int) (b b' d d' c c':ByteArray) (w:World) :
  (Op.equalIn (N+3) 99 (.agg #[.int .i64 k,.string b,.string d,.int .i64 vk,.int .i64 vn,.int .i64 vm,.string c,.int .i64 a]) (.agg #[.int .i64 k',.string b',.string d',.int .i64 vk',.int .i64 vn',.int .i64 vm',.string c',.int .i64 a'])).run Tryz.prog w
   = .ok (k==k'&&(b.toList==b'.toList&&(d.toList==d'.toList&&((vk==vk'&&(vn==vn'&&(vm==vm'&&c.toList==c'.toList)))&&a==a')))) w:=by
 have u3:=Tryz.underlying3
 have a3:=Tryz.isAgg3
 have z3:=Tryz.sizeOf3
 have u4:=Tryz.underlying9
 have a4:=Tryz.isAgg9
 have z4:=Tryz.sizeOf9
 have a5:=Tryz.isAgg23
 have hS:Tryz.prog.underlying 99=some (.struct (Tryz.prog.fieldsOf 99)):=by kernel_rfl
 have hp:Tryz.prog.stoodInHeld 99=false:=by kernel_rfl
 rw [run_equalIn_agg w (N+2) 99 _ _ hS hp]
 simp only [Program.fieldsOf,Tryz.underlying99]
 go_simp
 by_cases h1:k=k'
 case neg=>simp [h1]
 by_cases h2:b.toList=b'.toList
 case neg=>simp [h2]
 by_cases h2':d.toList=d'.toList
 case neg=>simp [h2']
 by_cases h3:vk=vk'
 case neg=>simp [h3]
 by_cases h4:vn=vn'
 case neg=>simp [h4]
 by_cases h5:vm=vm'
 case neg=>simp [h5]
 by_cases h6:c.toList=c'.toList
 case neg=>simp [h6]
 by_cases h7:a=a' <;> simp [h1,h2,h2',h3,h4,h5,h6,h7]
theorem ba_eq0 (a b:List UInt8):((ByteArray.mk a.toArray).toList==(ByteArray.mk b.toArray).toList)=(a==b):=by
 rw [ByteArray.toList_eq,ByteArray.toList_eq]
theorem eqNd (x y:Nd) (w:World):(Op.equalIn 10000 99 (ndv x) (ndv y)).run Tryz.prog w=.ok (sameN x y) w:=by
 have:=eqNd_at 9997 x.o y.o x.a y.a x.v.k x.v.n x.v.m y.v.k y.v.n y.v.m ⟨x.t.toArray⟩ ⟨y.t.toArray⟩ ⟨x.n.toArray⟩ ⟨y.n.toArray⟩ ⟨x.v.b.toArray⟩ ⟨y.v.b.toArray⟩ w
 rw [ba_eq0,ba_eq0,ba_eq0] at this
 exact this
end Go.Proofs.YtibbenhplmmmiaaGreatDoor

namespace Go.Proofs.YtibbenhplmmmiaaGreatDoor
open Go.RowKit Go.Shelf
shelf_lay LaysM.n171 Nm 171 at Tryz as Tryz.laysItoa
shelf_lay LaysM.n316 Nm 316 at Tryz as Tryz.laysClone
def Ptab (w:World):Prop:=Lib.TabIs Tryz.prog w "internal/strconv.uint64pow10" .u64 Lib.pow10Tab
theorem Ptab.later {w w':World} (h:Ptab w) (hb:Below w.heap.size w w'):Ptab w':=by
 unfold Ptab Lib.TabIs World.var? at *
 cases hg:Tryz.prog.globalNamed "internal/strconv.uint64pow10" with
 | none=>rw [hg] at h;cases h
 | some g =>
  rw [hg] at h
  simp only [Option.bind_some] at h ⊢
  have hlt:g<w.heap.size:=by
   rcases Nat.lt_or_ge g w.heap.size with h'|h'
   ·exact h'
   ·rw [Array.getElem?_eq_none h'] at h;cases h
  rw [hb.block g hlt]
  exact h
theorem clone_any (B:ByteArray) (w:World) (h:B.size≤140737488351232):Calls Tryz.prog 116 #[.string B] w fun e w'=>e=.returned (.string B)∧Below w.heap.size w w':=by
 have C:∀ W,Calls Tryz.prog 186 #[.string B] W fun e w'=>e=.returned (.string B)∧Below W.heap.size W w':=fun W=>Any.stringslite_Clone Tryz.laysClone B W (by omega)
 go_enter Tryz.func116,Tryz.ntmps116
 go_wp2_with (go_at_call 186;refine (C _).mono ?_;rintro e w' ⟨rfl,hb⟩)
 go_ret
 exact ⟨rfl,hb⟩
end Go.Proofs.YtibbenhplmmmiaaGreatDoor

namespace Go.Proofs.YtibbenhplmmmiaaGreatDoor
open Go.RowKit Go.Shelf
attribute [local go_sem] z0e z0b z0c z0f z0m z0k z0h z0d z0g
def dpt (n m:Int):List UInt8:=dtext n m.toNat++(if m=0 then [46] else [])
def ptext (v:Va):List UInt8:=if v.k=1 then dtext v.n 0 else if v.k=2 then dpt v.n v.m else quoL v.b
def pv (v:Va):List UInt8:=if vr v then ptext v else []
end Go.Proofs.YtibbenhplmmmiaaGreatDoor

namespace Go.Proofs.YtibbenhplmmmiaaGreatDoor
open Go.RowKit
def bat (l:List UInt8) (i:Nat):UInt8:=l.getD i 0
theorem byteAt_any (l:List UInt8) (i:Nat) (w:World):Calls Tryz.prog 321 #[.string ⟨l.toArray⟩,.int .i64 (i:Int)] w fun e w'=>e=.returned (.int .u8 ((bat l i).toNat:Int))∧w=w':=by
 have hs:(ByteArray.mk l.toArray).size=l.length:=rfl
 by_cases h:i<l.length
 ·have h1:(i:Int)<(l.length:Int):=by omega
  have h2:(0:Int)≤(i:Int):=by omega
  have hg:∀ h,(ByteArray.mk l.toArray)[i]'h=bat l i:=fun h'=>by
   show l[i]=_
   unfold bat
   simp [List.getD,h]
  generalize bat l i=c at *
  generalize ByteArray.mk l.toArray=B at *
  go_enter Tryz.func321,Tryz.ntmps321
  go_wp2
  go_ret
  exact ⟨rfl,rfl⟩
 ·have h1:¬ (i:Int)<(l.length:Int):=by omega
  have hg:bat l i=0:=by
   unfold bat
   rw [List.getD_eq_getElem?_getD,List.getElem?_eq_none (by omega)]
   rfl
  rw [hg]
  generalize ByteArray.mk l.toArray=B at *
  go_enter Tryz.func321,Tryz.ntmps321
  go_wp2
  go_ret
  exact ⟨rfl,rfl⟩
theorem isDigit_any (c:UInt8) (w:World):Calls Tryz.prog 323 #[.int .u8 (c.toNat:Int)] w fun e w'=>e=.returned (.bool (isD c))∧w=w':=by
 have e:isD c=(decide ((48:Int)≤(c.toNat:Int))&&decide ((c.toNat:Int)≤57)):=by
  unfold isD
  have e1:decide (48≤c.toNat)=decide ((48:Int)≤(c.toNat:Int)):=by simp;omega
  have e2:decide (c.toNat≤57)=decide ((c.toNat:Int)≤57):=by simp;omega
  rw [e1,e2]
 rw [e]
 generalize (c.toNat:Int)=n
 by_cases h1:(48:Int)≤n
 ·rw [decide_eq_true h1]
  go_enter Tryz.func323,Tryz.ntmps323
  go_wp2
  go_ret
  exact ⟨rfl,rfl⟩
 ·rw [decide_eq_false h1]
  go_enter Tryz.func323,Tryz.ntmps323
  go_wp2
  go_ret
  exact ⟨rfl,rfl⟩
theorem isLetter_any (c:UInt8) (w:World):Calls Tryz.prog 322 #[.int .u8 (c.toNat:Int)] w fun e w'=>e=.returned (.bool (isL c))∧w=w':=by
 have e:isL c=((decide ((97:Int)≤(c.toNat:Int))&&decide ((c.toNat:Int)≤122)) || ((c.toNat:Int)==95)):=by
  unfold isL
  have e1:decide (97≤c.toNat)=decide ((97:Int)≤(c.toNat:Int)):=by simp;omega
  have e2:decide (c.toNat≤122)=decide ((c.toNat:Int)≤122):=by simp;omega
  have e3:decide (c.toNat=95)=((c.toNat:Int)==95):=by
   by_cases h:c.toNat=95
   ·rw [h];rfl
   ·rw [decide_eq_false h];symm;rw [beq_eq_false_iff_ne];omega
  rw [e1,e2,e3]
 rw [e]
 generalize (c.toNat:Int)=n
 by_cases h1:(97:Int)≤n
 ·rw [decide_eq_true h1]
  by_cases h2:n≤122
  ·rw [decide_eq_true h2]
   go_enter Tryz.func322,Tryz.ntmps322
   go_wp2
   go_ret
   exact ⟨rfl,rfl⟩
  ·rw [decide_eq_false h2]
   go_enter Tryz.func322,Tryz.ntmps322
   go_wp2
   go_ret
   exact ⟨rfl,rfl⟩
 ·rw [decide_eq_false h1]
  go_enter Tryz.func322,Tryz.ntmps322
  go_wp2
  go_ret
  exact ⟨rfl,rfl⟩
theorem fitsName_any (B:ByteArray) (w:World):Calls Tryz.prog 315 #[.string B] w fun e w'=>e=.returned (.bool (decide (B.size≤32)))∧w=w':=by
 have h:decide (B.size≤32)=decide ((B.size:Int)≤32):=by simp;omega
 rw [h]
 go_enter Tryz.func315,Tryz.ntmps315
 go_wp2
 go_ret
 exact ⟨rfl,rfl⟩
theorem ixb_at (B:ByteArray) (c:UInt8) (r:Int) (h:firstIdx B c=r) (w:World):(callFunc 306 #[.string B,.int .u8 (c.toNat:Int)]).run Tryz.prog w=.ok (.value (.int .i64 r)) w:=by
 rw [run_callFunc_extern Tryz.func306 gK gK gK (e:=Extern.BytealgIndexByte.indexByte) gK,run_indexByte_string]
 rw [show ((c.toNat:Int).toNat.toUInt8)=c by simp,h]
 rfl
theorem ixbLite_any (B:ByteArray) (c:UInt8) (w:World):Calls Tryz.prog 285 #[.string B,.int .u8 (c.toNat:Int)] w fun e w'=>e=.returned (.int .i64 (firstIdx B c))∧w=w':=by
 have F:=fun w=>ixb_at B c _ rfl w
 generalize firstIdx B c=r at *
 generalize (c.toNat:Int)=n at *
 go_enter Tryz.func285,Tryz.ntmps285
 go_wp2
 go_ret
 exact ⟨rfl,rfl⟩
theorem z7s (B:ByteArray) (c:UInt8) (w:World):Calls Tryz.prog 308 #[.string B,.int .u8 (c.toNat:Int)] w fun e w'=>e=.returned (.int .i64 (firstIdx B c))∧w=w':=by
 have F:=fun w=>ixbLite_any B c w
 generalize firstIdx B c=r at *
 generalize (c.toNat:Int)=n at *
 go_enter Tryz.func308,Tryz.ntmps308
 go_wp2_with (go_at_call 285;refine (F _).mono ?_;rintro e w' ⟨rfl,rfl⟩)
 go_ret
 exact ⟨rfl,rfl⟩
theorem signs_idx (c:UInt8):decide ((0:Int)≤firstIdx ⟨#[40,41,44,46,59,42,43,45,47,37,61]⟩ c)=isS c:=by
 have h:∀ n:Nat,n<256→decide ((0:Int)≤firstIdx ⟨#[40,41,44,46,59,42,43,45,47,37,61]⟩ n.toUInt8)=isS n.toUInt8:=by decide +kernel
 have:=h c.toNat c.toNat_lt
 simpa using this
theorem z5p (l:List UInt8) (i:Nat) (h:i<l.length):l.drop i=bat l i::l.drop (i+1):=by
 rw [List.drop_eq_getElem_cons h]
 unfold bat
 simp [List.getD,h]
theorem z7h (l:List UInt8) (i:Nat) (h:l.length≤i):bat l i=0:=by
 unfold bat
 rw [List.getD_eq_getElem?_getD,List.getElem?_eq_none (by omega)]
 rfl
end Go.Proofs.YtibbenhplmmmiaaGreatDoor
