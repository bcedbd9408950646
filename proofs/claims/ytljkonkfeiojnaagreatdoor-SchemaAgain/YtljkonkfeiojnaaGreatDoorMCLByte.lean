/-
  The contract of expr.Reserved: whether a text is one of the reserved words.
  Nodes of expressions: operands and named, and the comparison of two nodes.
  The library's contracts laid at this program: strconv.Itoa, strings.Clone; HasSuffix, TrimSuffix, Index and Contains at one point.
  The contracts of datum.Print and of what it calls, of datum.told and datum.toldNumber: values that a literal can be.
  The contracts of datum.toldNumber, datum.told and datum.Parse at the texts of literals.
  The contract of datum.Parse at the texts of literals.
  The contracts of the lexer's small functions: byteAt, isLetter, isDigit, fitsName, the library's IndexByte, pastBlanks.
-/
import Derived.Test.YtljkonkfeiojnaaGreatDoorChecked
import Derived.Test.YtljkonkfeiojnaaGreatDoorMeDWide3
import Derived.WalkKit
import Derived.WalkSpells
import Derived.WalkLawsBesides
import Derived.Laws.IdiomStrings
import Derived.Test.YtljkonkfeiojnaaGreatDoorVLogic
import Derived.Test.YtljkonkfeiojnaaGreatDoorVMath
import Derived.WalkMore
import Derived.Below
import Derived.BigRegion
import Derived.Test.YtljkonkfeiojnaaGreatDoorMhDText1
import Derived.Test.YtljkonkfeiojnaaGreatDoorMjDParse
import Derived.Shelf.Strconv.Itoa3
import Derived.Shelf.Strconv.Clone
import Derived.Ground.NamesProg
import Derived.Shelf.Lay
import Derived.Test.YtljkonkfeiojnaaGreatDoorMzVCmp
import Derived.Test.YtljkonkfeiojnaaGreatDoorVQuote
import Derived.Test.YtljkonkfeiojnaaGreatDoorDText5
import Derived.Test.YtljkonkfeiojnaaGreatDoorMlDDivP
import Derived.Test.YtljkonkfeiojnaaGreatDoorMaLJumps
set_option maxHeartbeats 4000000
set_option maxRecDepth 20000
namespace Go.Proofs.YtljkonkfeiojnaaGreatDoor
open Go.RowKit
def resW:List (List UInt8):=[[97,110,100],[111,114],[110,111,116],[105,115],[110,117,108,108],[116,114,117,101],[102,97,108,115,101],[115,101,108,101,99,116],[100,105,115,116,105,110,99,116],[102,114,111,109],[119,104,101,114,101],[103,114,111,117,112],[98,121],[104,97,118,105,110,103],[111,114,100,101,114],[97,115,99],[100,101,115,99],[108,105,109,105,116],[117,110,105,111,110],[97,108,108],[106,111,105,110],[108,101,102,116],[99,114,111,115,115],[111,110],[97,115],[105,110,115,101,114,116],[105,110,116,111],[118,97,108,117,101,115],[117,112,100,97,116,101],[115,101,116],[100,101,108,101,116,101],[99,114,101,97,116,101],[116,97,98,108,101],[100,114,111,112],[112,114,105,109,97,114,121],[107,101,121],[117,110,105,113,117,101],[99,104,101,99,107],[98,101,103,105,110],[99,111,109,109,105,116],[114,111,108,108,98,97,99,107]]
def resL (l:List UInt8):Bool:=resW.contains l
theorem z6t (B:ByteArray) (w:World):Calls Tryz.prog 50 #[.string B] w fun e w'=>e=.returned (.bool (resL B.toList))∧w=w':=by
  obtain ⟨R,hR⟩:∃ R,R=resL B.toList:=⟨_,rfl⟩
  rw [← hR]
  have HR:Hid (R=resL B.toList):=hR
  clear hR
  go_enter Tryz.func50,Tryz.ntmps50
  go_wp2
  all_goals first
    | (rename_i h1 h2;exact absurd (h1.symm.trans h2) (by decide))
    | (rename_i h1 h2;exact absurd (h2.symm.trans h1) (by decide))
    | (go_ret
       refine ⟨?_,rfl⟩
       rw [HR.out]
       unfold resL resW
       simp only [List.contains_cons,List.contains_nil,Bool.false_or,Bool.true_or,Bool.or_self, *] <;> rfl)
end Go.Proofs.YtljkonkfeiojnaaGreatDoor

namespace Go.Proofs.YtljkonkfeiojnaaGreatDoor
open Go.RowKit
attribute [local go_sem] z0f z0b z0c z0e z0m z0k z0h z0d z0g
structure Nd where
 o:Int
 t:List UInt8
 n:List UInt8
 v:Va
 a:Int
abbrev ncs (x:Nd):Array Value:=#[.int .i64 x.o,.string ⟨x.t.toArray⟩,.string ⟨x.n.toArray⟩,.int .i64 x.v.k,.int .i64 x.v.n,.int .i64 x.v.m,.string ⟨x.v.b.toArray⟩,.int .i64 x.a]
abbrev ndv (x:Nd):Value:=.agg (ncs x)
def opsN (x:Nd):Int:=if x.o=19 then x.a else if 6≤x.o then 2 else if 3≤x.o then 1 else 0
theorem operands_any (x:Nd) (w:World):Calls Tryz.prog 103 #[ndv x] w fun e w'=>e=.returned (.int .i64 (opsN x))∧Grew w w':=by
 obtain ⟨o,t,n,v,a⟩:=x
 unfold opsN
 simp only
 by_cases h1:o=19
 ·subst h1
  rw [if_pos rfl]
  go_enter Tryz.func103,Tryz.ntmps103
  go_wp2
  go_ret
  exact ⟨rfl,(Grew.refl _).alloc _⟩
 rw [if_neg h1]
 have e1:(o==19)=false:=by rw [beq_eq_false_iff_ne];exact h1
 by_cases h2:6≤o
 ·rw [if_pos h2]
  go_enter Tryz.func103,Tryz.ntmps103
  go_wp2
  go_ret
  exact ⟨rfl,(Grew.refl _).alloc _⟩
 rw [if_neg h2]
 by_cases h3:3≤o
 ·rw [if_pos h3]
  go_enter Tryz.func103,Tryz.ntmps103
  go_wp2
  go_ret
  exact ⟨rfl,(Grew.refl _).alloc _⟩
 ·rw [if_neg h3]
  go_enter Tryz.func103,Tryz.ntmps103
  go_wp2
  go_ret
  exact ⟨rfl,(Grew.refl _).alloc _⟩
abbrev vz0:Va:=⟨0,0,0,[]⟩
def namedN (x:Nd):Nd:=if x.o=1 then ⟨1,[],[],x.v,0⟩ else if x.o=2 then ⟨2,x.t,x.n,vz0,0⟩ else if x.o=19 then ⟨19,[],x.n,vz0,x.a⟩ else ⟨x.o,[],[],vz0,0⟩
theorem enamed_any (x:Nd) (w:World):Calls Tryz.prog 138 #[ndv x] w fun e w'=>e=.returned (ndv (namedN x))∧Grew w w':=by
 obtain ⟨o,t,n,v,a⟩:=x
 unfold namedN
 simp only
 by_cases h1:o=1
 ·subst h1
  rw [if_pos rfl]
  go_enter Tryz.func138,Tryz.ntmps138
  go_wp2
  refine bodyPost_ret_by (v:=ndv ⟨1,[],[],v,0⟩) ?_ rfl ⟨rfl,gA⟩
  simp [results,Tryz.results138,go_sem]
 rw [if_neg h1]
 have e1:(o==1)=false:=by rw [beq_eq_false_iff_ne];exact h1
 by_cases h2:o=2
 ·subst h2
  rw [if_pos rfl]
  go_enter Tryz.func138,Tryz.ntmps138
  go_wp2
  refine bodyPost_ret_by (v:=ndv ⟨2,t,n,vz0,0⟩) ?_ rfl ⟨rfl,gA⟩
  simp [results,Tryz.results138,go_sem]
 rw [if_neg h2]
 have e2:(o==2)=false:=by rw [beq_eq_false_iff_ne];exact h2
 by_cases h3:o=19
 ·subst h3
  rw [if_pos rfl]
  go_enter Tryz.func138,Tryz.ntmps138
  go_wp2
  refine bodyPost_ret_by (v:=ndv ⟨19,[],n,vz0,a⟩) ?_ rfl ⟨rfl,gA⟩
  simp [results,Tryz.results138,go_sem]
 ·rw [if_neg h3]
  have e3:(o==19)=false:=by rw [beq_eq_false_iff_ne];exact h3
  go_enter Tryz.func138,Tryz.ntmps138
  go_wp2
  refine bodyPost_ret_by (v:=ndv ⟨o,[],[],vz0,0⟩) ?_ rfl ⟨rfl,gA⟩
  simp [results,Tryz.results138,go_sem]
def sameV0 (a b:Va):Bool:=a.k==b.k&&(a.n==b.n&&(a.m==b.m&&a.b==b.b))
def sameN (x y:Nd):Bool:=x.o==y.o&&(x.t==y.t&&(x.n==y.n&&(sameV0 x.v y.v&&x.a==y.a)))
theorem eqNd_at (N:Nat) (k k' a a' vk vn vm vk' vn' vm':Int) (b b' d d' c c':ByteArray) (w:World) :
  (Op.equalIn (N+3) 74 (.agg #[.int .i64 k,.string b,.string d,.int .i64 vk,.int .i64 vn,.int .i64 vm,.string c,.int .i64 a]) (.agg #[.int .i64 k',.string b',.string d',.int .i64 vk',.int .i64 vn',.int .i64 vm',.string c',.int .i64 a'])).run Tryz.prog w
   = .ok (k==k'&&(b.toList==b'.toList&&(d.toList==d'.toList&&((vk==vk'&&(vn==vn'&&(vm==vm'&&c.toList==c'.toList)))&&a==a')))) w:=by
 have u3:=Tryz.underlying3
 have a3:=Tryz.isAgg3
 have z3:=Tryz.sizeOf3
 have u4:=Tryz.underlying9
 have a4:=Tryz.isAgg9
 have z4:=Tryz.sizeOf9
 have a5:=Tryz.isAgg44
 have hS:Tryz.prog.underlying 74=some (.struct (Tryz.prog.fieldsOf 74)):=by kernel_rfl
 have hp:Tryz.prog.stoodInHeld 74=false:=by kernel_rfl
 rw [run_equalIn_agg w (N+2) 74 _ _ hS hp]
 simp only [Program.fieldsOf,Tryz.underlying74]
 go_simp
 by_cases h1:k=k'
 case neg=>simp [h1]
 by_cases h2:b.toList=b'.toList
 case neg=>simp [h2]
 by_cases h2':d.toList=d'.toList
 case neg=>simp [h2']
 by_cases h3:vk=vk'
 case neg=>simp [h3]
 by_cases h4:vn=vn'
 case neg=>simp [h4]
 by_cases h5:vm=vm'
 case neg=>simp [h5]
 by_cases h6:c.toList=c'.toList
 case neg=>simp [h6]
 by_cases h7:a=a' <;> simp [h1,h2,h2',h3,h4,h5,h6,h7]
theorem ba_eq0 (a b:List UInt8):((ByteArray.mk a.toArray).toList==(ByteArray.mk b.toArray).toList)=(a==b):=by
 rw [ByteArray.toList_eq,ByteArray.toList_eq]
theorem eqNd (x y:Nd) (w:World):(Op.equalIn 10000 74 (ndv x) (ndv y)).run Tryz.prog w=.ok (sameN x y) w:=by
 have:=eqNd_at 9997 x.o y.o x.a y.a x.v.k x.v.n x.v.m y.v.k y.v.n y.v.m ⟨x.t.toArray⟩ ⟨y.t.toArray⟩ ⟨x.n.toArray⟩ ⟨y.n.toArray⟩ ⟨x.v.b.toArray⟩ ⟨y.v.b.toArray⟩ w
 rw [ba_eq0,ba_eq0,ba_eq0] at this
 exact this
end Go.Proofs.YtljkonkfeiojnaaGreatDoor

namespace Go.Proofs.YtljkonkfeiojnaaGreatDoor
open Go.RowKit Go.Shelf
shelf_lay LaysM.n171 Nm 171 at Tryz as Tryz.laysItoa
shelf_lay LaysM.n316 Nm 316 at Tryz as Tryz.laysClone
def Ptab (w:World):Prop:=Lib.TabIs Tryz.prog w "internal/strconv.uint64pow10" .u64 Lib.pow10Tab
theorem Ptab.later {w w':World} (h:Ptab w) (hb:Below w.heap.size w w'):Ptab w':=by
 unfold Ptab Lib.TabIs World.var? at *
 cases hg:Tryz.prog.globalNamed "internal/strconv.uint64pow10" with
 | none=>rw [hg] at h;cases h
 | some g =>
  rw [hg] at h
  simp only [Option.bind_some] at h ⊢
  have hlt:g<w.heap.size:=by
   rcases Nat.lt_or_ge g w.heap.size with h'|h'
   ·exact h'
   ·rw [Array.getElem?_eq_none h'] at h;cases h
  rw [hb.block g hlt]
  exact h
theorem dec_digs (u:Nat):Lib.decDigits u=digs u:=by
 induction u using Nat.strongRecOn with
 | ind u ih =>
  by_cases h:u<10
  ·rw [Lib.decDigits,dif_pos h,z1k u h]
  ·rw [Lib.decDigits,dif_neg h,z3c u h,ih (u / 10) (by omega)]
theorem itoa_text (n:Int):Lib.itoa n=z2z n 0:=by
 unfold Lib.itoa z2z
 have e:pad 0 (digs n.natAbs)=digs n.natAbs:=by
  refine z9t 0 _ ?_
  by_cases h:n.natAbs<10
  ·rw [z1k _ h];simp
  ·rw [z3c _ h];simp
 rw [if_pos rfl,e]
 split
 ·rw [dec_digs];rfl
 ·rw [dec_digs,show n.toNat=n.natAbs by omega];rfl
theorem grow_more (l:List Obj):∀ (w:World),Sort.grow w l.toArray=more w l:=by
 induction l with
 | nil=>intro w;simp [Sort.grow,more]
 | cons o l ih =>
  intro w
  rw [more,← ih]
  unfold Sort.grow World.alloc
  simp
theorem itoa_any (n:Int) (w:World) (h0:-9223372036854775808≤n) (h1:n≤9223372036854775807) (hP:Ptab w):Calls Tryz.prog 23 #[.int .i64 n] w fun e w'=>e=.returned (.string ⟨(z2z n 0).toArray⟩)∧Grew w w':=by
 rw [← itoa_text]
 refine (Any.strconv_Itoa Tryz.laysItoa n h0 h1 w hP).mono ?_
 rintro e w' ⟨rfl,k,os,rfl⟩
 refine ⟨rfl,os.toList,k,?_⟩
 have h:=grow_more os.toList (w.drewN k)
 rw [Array.toArray_toList] at h
 rw [h,z0h]
theorem z4a (B:ByteArray) (w:World) (h:B.size≤140737488351232):Calls Tryz.prog 35 #[.string B] w fun e w'=>e=.returned (.string B)∧Below w.heap.size w w':=by
 have C:∀ W,Calls Tryz.prog 58 #[.string B] W fun e w'=>e=.returned (.string B)∧Below W.heap.size W w':=fun W=>Any.stringslite_Clone Tryz.laysClone B W (by omega)
 go_enter Tryz.func35,Tryz.ntmps35
 go_wp2_with (go_at_call 58;refine (C _).mono ?_;rintro e w' ⟨rfl,hb⟩)
 go_ret
 exact ⟨rfl,hb⟩
theorem suffix_one (l:List UInt8) (w:World) (hl:l.length≤9223372036854775806):Calls Tryz.prog 239 #[.string ⟨l.toArray⟩,.string ⟨#[46]⟩] w fun e w'=>e=.returned (.bool (decide (l.getLast?=some 46)))∧w=w':=by
 rcases List.eq_nil_or_concat l with rfl|⟨m,c,rfl⟩
 ·go_enter Tryz.func239,Tryz.ntmps239
  go_wp2
  go_ret
  exact ⟨rfl,rfl⟩
 ·have hs:(ByteArray.mk (m++[c]).toArray).size=m.length+1:=by show (m++[c]).length=_;simp
  have e:decide ((m++[c]).getLast?=some 46)=decide (c=46):=by simp
  rw [List.concat_eq_append,e]
  have hx:(((ByteArray.mk (m++[c]).toArray).extract m.length (m.length+1)).toList==[46])=decide (c=46):=by
   rw [z3v,ByteArray.toList_eq]
   show (((m++[c]).take (m.length+1)).drop m.length==[46])=_
   rw [List.take_of_length_le (by simp),List.drop_left' rfl]
   by_cases h:c=46 <;> simp [h]
  have h1:((m.length+1:Nat):Int)=(m.length:Int)+1:=by omega
  have h2:(1:Int)≤(m.length:Int)+1:=by omega
  have h3:m.length≤9223372036854775805:=by simp at hl;omega
  generalize decide (c=46)=b at *
  generalize ByteArray.mk (m++[c]).toArray=B at *
  generalize m.length=n at *
  clear e hl
  go_enter Tryz.func239,Tryz.ntmps239
  go_wp2
  go_ret
  exact ⟨rfl,rfl⟩
end Go.Proofs.YtljkonkfeiojnaaGreatDoor

namespace Go.Proofs.YtljkonkfeiojnaaGreatDoor
open Go.RowKit Go.Shelf
attribute [local go_sem] z0f z0b z0c z0e z0m z0k z0h z0d z0g
def dpt (n m:Int):List UInt8:=z2z n m.toNat++(if m=0 then [46] else [])
def ptext (v:Va):List UInt8:=if v.k=1 then z2z v.n 0 else if v.k=2 then dpt v.n v.m else quoL v.b
theorem decText_any (k n m:Int) (b:ByteArray) (w:World) (n0:-9223372036854775808≤n) (n1:n≤9223372036854775807) (m0:0≤m) (m1:m≤6) :
  Calls Tryz.prog 24 #[va k n m b] w fun e w'=>e=.returned (.string ⟨(dpt n m).toArray⟩)∧Grew w w':=by
 have U:=fun W=>z6w k n m b W
 have P:∀ W,Calls Tryz.prog 46 #[dv n m] W fun e w'=>e=.returned (.string ⟨(z2z n m.toNat).toArray⟩)∧Grew W w':=fun W=>by
  have:=print_good n m.toNat W (by omega) n0 n1
  rwa [show ((m.toNat:Nat):Int)=m by omega] at this
 have hlen:(z2z n m.toNat).length≤9223372036854775806:=by
  have:=z9r 19 n.natAbs (by have h10:(10:Nat)^(19+1)=100000000000000000000:=(by decide);omega)
  have h1:=pad_len m.toNat (digs n.natAbs)
  have h0:=pad_len 0 (digs n.natAbs)
  unfold z2z
  split <;> split <;> simp [List.length_take] <;> omega
 unfold dpt
 generalize z2z n m.toNat=D at *
 by_cases hm:m=0
 ·subst hm
  rw [if_pos rfl]
  have hadd:(ByteArray.mk D.toArray)++(ByteArray.mk #[46])=⟨(D++[46]).toArray⟩:=ba_app D [46]
  have hsz:¬ 9223372036854775807<(ByteArray.mk D.toArray).size+1:=by show ¬ _<D.length+1;omega
  have hsz2:(ByteArray.mk D.toArray).size=D.length:=rfl
  clear m0 m1 n0 n1
  generalize ByteArray.mk (D++[46]).toArray=R at *
  generalize ByteArray.mk D.toArray=E at *
  go_enter Tryz.func24,Tryz.ntmps24
  go_wp2_with (first
   | (go_at_call 47;refine (U _).mono ?_;rintro e w1 ⟨rfl,os1,k1,rfl⟩)
   | (go_at_call 46;refine (P _).mono ?_;rintro e w2 ⟨rfl,os2,k2,rfl⟩))
  go_ret
  exact ⟨rfl,gB⟩
 ·rw [if_neg hm,List.append_nil]
  have hm':(m==0)=false:=by simpa using hm
  clear m0 m1 n0 n1 hm hlen
  generalize ByteArray.mk D.toArray=E at *
  go_enter Tryz.func24,Tryz.ntmps24
  go_wp2_with (first
   | (go_at_call 47;refine (U _).mono ?_;rintro e w1 ⟨rfl,os1,k1,rfl⟩)
   | (go_at_call 46;refine (P _).mono ?_;rintro e w2 ⟨rfl,os2,k2,rfl⟩))
  go_ret
  exact ⟨rfl,gB⟩
def pv (v:Va):List UInt8:=if vr v then ptext v else []
theorem vprint_any (v:Va) (w:World) (hT:Tabs w) (hP:Ptab w) (hk:v.k=1∨v.k=2∨v.k=3) (hn:-9223372036854775808≤v.n∧v.n≤9223372036854775807) :
  Calls Tryz.prog 12 #[vv v] w fun e w'=>e=.returned (.string ⟨(pv v).toArray⟩)∧Below w.heap.size w w':=by
 obtain ⟨k,n,m,b⟩:=v
 have R:∀ W,Grew w W→Calls Tryz.prog 22 #[va k n m ⟨b.toArray⟩] W fun e w'=>e=.returned (.bool (vr ⟨k,n,m,b⟩))∧Below W.heap.size W w':=fun W h=>z2u k n m ⟨b.toArray⟩ W (hT.later h.below)
 have B0:=Box.new w k n m b
 have hok:=z3u ⟨k,n,m,b⟩
 unfold pv
 have hI:∀ W,Below w.heap.size w W→Calls Tryz.prog 23 #[.int .i64 n] W fun e w'=>e=.returned (.string ⟨(z2z n 0).toArray⟩)∧Grew W w':=fun W h=>itoa_any n W hn.1 hn.2 (hP.later h)
 clear hT hP
 cases hvr:vr ⟨k,n,m,b⟩ with
 | false =>
  rw [hvr] at R
  clear hok hI hk
  rw [if_neg (by simp)]
  go_enter Tryz.func12,Tryz.ntmps12
  go_wp2_with (go_at_call 22;refine (R _ gB).mono ?_;rintro e w1 ⟨rfl,b1⟩)
  go_ret
  exact ⟨rfl,((Below.refl _ w).alloc (Nat.le_refl _) _).trans (b1.mono (by simp))⟩
 | true =>
  rw [hvr] at R
  have hok':=hok.1 hvr
  rw [if_pos rfl]
  rcases hk with hk|hk|hk
  ·have hk':k=1:=hk
   subst hk'
   show Calls _ _ _ _ fun e w'=>e=.returned (.string ⟨(z2z n 0).toArray⟩)∧_
   clear hok hok' hk hvr
   generalize ByteArray.mk (z2z n 0).toArray=D at *
   go_enter Tryz.func12,Tryz.ntmps12
   go_wp2_with (first
    | (go_at_call 22;refine (R _ gB).mono ?_;rintro e w1 ⟨rfl,b1⟩;have bb:Below w.heap.size w w1:=((Below.refl _ w).alloc (Nat.le_refl _) _).trans (b1.mono (by simp));have bx:=B0.later b1;obtain ⟨c0,c1,c2,c3⟩:=bx.at4;clear bx)
    | (go_at_call 23;refine (hI _ (by first|assumption|exact z0a bb (Grew.below gB))).mono ?_;rintro e w2 ⟨rfl,os2,k2,rfl⟩))
   go_ret
   exact ⟨rfl,z0a bb (Grew.below gB)⟩
  ·have hk':k=2:=hk
   subst hk'
   have hm:0≤m∧m≤6:=by
    have h:=hok'
    unfold vok at h
    simp at h
    omega
   have D:∀ W,Calls Tryz.prog 24 #[va 2 n m ⟨b.toArray⟩] W fun e w'=>e=.returned (.string ⟨(dpt n m).toArray⟩)∧Grew W w':=fun W=>decText_any 2 n m ⟨b.toArray⟩ W hn.1 hn.2 hm.1 hm.2
   show Calls _ _ _ _ fun e w'=>e=.returned (.string ⟨(dpt n m).toArray⟩)∧_
   clear hok hok' hk hvr hI hm
   generalize ByteArray.mk (dpt n m).toArray=E at *
   go_enter Tryz.func12,Tryz.ntmps12
   go_wp2_with (first
    | (go_at_call 22;refine (R _ gB).mono ?_;rintro e w1 ⟨rfl,b1⟩;have bb:Below w.heap.size w w1:=((Below.refl _ w).alloc (Nat.le_refl _) _).trans (b1.mono (by simp));have bx:=B0.later b1;obtain ⟨c0,c1,c2,c3⟩:=bx.at4;clear bx)
    | (go_at_call 24;refine (D _).mono ?_;rintro e w2 ⟨rfl,os2,k2,rfl⟩))
   go_ret
   exact ⟨rfl,z0a bb (Grew.below gB)⟩
  ·have hk':k=3:=hk
   subst hk'
   have hl:b.length≤256:=by
    have h:=hok'
    unfold vok at h
    simp at h
    omega
   have Q:∀ W,Calls Tryz.prog 25 #[.string ⟨b.toArray⟩] W fun e w'=>e=.returned (.string ⟨(quoL b).toArray⟩)∧Below W.heap.size W w':=fun W=>quoted_any ⟨b.toArray⟩ W (by show b.length≤1000;omega)
   show Calls _ _ _ _ fun e w'=>e=.returned (.string ⟨(quoL b).toArray⟩)∧_
   clear hok hok' hk hvr hI hl
   generalize ByteArray.mk (quoL b).toArray=E at *
   go_enter Tryz.func12,Tryz.ntmps12
   go_wp2_with (first
    | (go_at_call 22;refine (R _ gB).mono ?_;rintro e w1 ⟨rfl,b1⟩;have bb:Below w.heap.size w w1:=((Below.refl _ w).alloc (Nat.le_refl _) _).trans (b1.mono (by simp));have bx:=B0.later b1;obtain ⟨c0,c1,c2,c3⟩:=bx.at4;clear bx)
    | (go_at_call 25;refine (Q _).mono ?_;rintro e w2 ⟨rfl,b2⟩))
   go_ret
   exact ⟨rfl,z0a bb b2⟩
def z6v (t:List UInt8):List UInt8:=if t.getLast?=some 46 then t.dropLast else t
theorem trimP_len (t:List UInt8):(z6v t).length≤t.length:=by
 unfold z6v;split <;> simp
theorem trimLite_any (t:List UInt8) (w:World) (hl:t.length≤9223372036854775806):Calls Tryz.prog 227 #[.string ⟨t.toArray⟩,.string ⟨#[46]⟩] w fun e w'=>e=.returned (.string ⟨(z6v t).toArray⟩)∧w=w':=by
 have H:=fun W=>suffix_one t W hl
 unfold z6v
 have hs:(ByteArray.mk t.toArray).size=t.length:=rfl
 by_cases h:t.getLast?=some 46
 ·rw [decide_eq_true h] at H
  rw [if_pos h]
  have hp:0<t.length:=by
   rcases Nat.eq_zero_or_pos t.length with h0|h0
   ·rw [List.length_eq_zero_iff.1 h0] at h;cases h
   ·exact h0
  have hx:(ByteArray.mk t.toArray).extract 0 (t.length - 1)=⟨t.dropLast.toArray⟩:=by
   rw [z3v,List.dropLast_eq_take];rfl
  have h1:((t.length:Int) - 1).toNat=t.length - 1:=by omega
  have h2:(1:Int)≤(t.length:Int):=by omega
  have h4:(0:Int)≤(t.length:Int) - 1:=by omega
  have h5:(t.length:Int) - 1≤(t.length:Int):=by omega
  generalize ByteArray.mk t.dropLast.toArray=R at *
  generalize ByteArray.mk t.toArray=B at *
  clear h
  generalize t.length=n at *
  go_enter Tryz.func227,Tryz.ntmps227
  go_wp2_with (go_at_call 239;refine (H _).mono ?_;rintro e w' ⟨rfl,rfl⟩)
  go_ret
  exact ⟨rfl,rfl⟩
 ·rw [decide_eq_false h] at H
  rw [if_neg h]
  generalize ByteArray.mk t.toArray=B at *
  clear h
  go_enter Tryz.func227,Tryz.ntmps227
  go_wp2_with (go_at_call 239;refine (H _).mono ?_;rintro e w' ⟨rfl,rfl⟩)
  go_ret
  exact ⟨rfl,rfl⟩
theorem trim_any (t:List UInt8) (w:World) (hl:t.length≤9223372036854775806):Calls Tryz.prog 204 #[.string ⟨t.toArray⟩,.string ⟨#[46]⟩] w fun e w'=>e=.returned (.string ⟨(z6v t).toArray⟩)∧w=w':=by
 have H:=fun W=>trimLite_any t W hl
 generalize ByteArray.mk (z6v t).toArray=R at *
 generalize ByteArray.mk t.toArray=B at *
 go_enter Tryz.func204,Tryz.ntmps204
 go_wp2_with (go_at_call 227;refine (H _).mono ?_;rintro e w' ⟨rfl,rfl⟩)
 go_ret
 exact ⟨rfl,rfl⟩
theorem sindex_any (t:List UInt8) (w:World):Calls Tryz.prog 228 #[.string ⟨t.toArray⟩,.string ⟨#[46]⟩] w fun e w'=>e=.returned (.int .i64 (firstIdx ⟨t.toArray⟩ 46))∧w=w':=by
 have H:=fun W=>index_any t W
 generalize firstIdx ⟨t.toArray⟩ 46=r at *
 generalize ByteArray.mk t.toArray=B at *
 go_enter Tryz.func228,Tryz.ntmps228
 go_wp2_with (go_at_call 231;refine (H _).mono ?_;rintro e w' ⟨rfl,rfl⟩)
 go_ret
 exact ⟨rfl,rfl⟩
theorem cut_has (t:List UInt8):decide ((0:Int)≤firstIdx ⟨t.toArray⟩ 46)=decide ((46:UInt8)∈t):=by
 have hnone:∀ l:List UInt8,(z1p l).2.2=decide ((46:UInt8)∈l):=by
  intro l
  induction l with
  | nil=>rfl
  | cons c l ih =>
   unfold z1p
   by_cases h:c=46
   ·simp [h]
   ·simp [h,ih,Ne.symm h]
 rw [← hnone]
 rcases first_cut t with ⟨h1,h2⟩|⟨i,h1,_,h2⟩
 ·rw [h1,h2];rfl
 ·rw [h1,h2];simp
theorem contains_any (t:List UInt8) (w:World):Calls Tryz.prog 205 #[.string ⟨t.toArray⟩,.string ⟨#[46]⟩] w fun e w'=>e=.returned (.bool (decide ((46:UInt8)∈t)))∧w=w':=by
 have H:=fun W=>sindex_any t W
 rw [← cut_has]
 generalize firstIdx ⟨t.toArray⟩ 46=r at *
 generalize ByteArray.mk t.toArray=B at *
 go_enter Tryz.func205,Tryz.ntmps205
 go_wp2_with (go_at_call 228;refine (H _).mono ?_;rintro e w' ⟨rfl,rfl⟩)
 go_ret
 exact ⟨rfl,rfl⟩
def tnv (t:List UInt8):Va × Bool :=
 match PR (z6v t) with
 | none=>(⟨if (46:UInt8)∈t then 2 else 1,0,0,[]⟩,false)
 | some (b,n,s)=>(⟨if (46:UInt8)∈t then 2 else 1,nz (sval b n),fs (sval b n) (s:Int),[]⟩,fits (sval b n))
theorem z7g (t:List UInt8) (w:World) (hl:t.length≤140737488351232):Calls Tryz.prog 178 #[.string ⟨t.toArray⟩] w fun e w'=>e=.returned (.tuple #[vv (tnv t).1,.bool (tnv t).2])∧Below w.heap.size w w':=by
 have T:=fun W=>trim_any t W (by omega)
 have C:=fun W=>contains_any t W
 have hpl:=trimP_len t
 obtain ⟨U,V,E,hP,hE1,hE2⟩:∃ U V E,PV (z6v t)=.tuple #[dv U V,.int .i64 E]∧(tnv t).1=⟨if (46:UInt8)∈t then 2 else 1,U,V,[]⟩∧(tnv t).2=(E==0):=by
  unfold PV tnv
  cases hp:PR (z6v t) with
  | none=>exact ⟨0,0,21,rfl,rfl,rfl⟩
  | some q =>
   obtain ⟨b,n,s⟩:=q
   refine ⟨_,_,_,rfl,rfl,?_⟩
   show fits (sval b n)=_
   unfold nErr
   cases fits (sval b n) <;> rfl
 have P:∀ W,Calls Tryz.prog 203 #[.string ⟨(z6v t).toArray⟩] W fun e w'=>e=.returned (.tuple #[dv U V,.int .i64 E])∧Below W.heap.size W w':=fun W=>by
  have:=parse_any (z6v t) W (by omega)
  rw [hP] at this
  refine this.mono ?_
  rintro e w' ⟨h1,h2⟩
  exact ⟨h1,h2.below⟩
 rw [hE1,hE2]
 show Calls _ _ _ _ fun e w'=>e=.returned (.tuple #[va (if (46:UInt8)∈t then 2 else 1) U V ⟨#[]⟩,.bool (E==0)])∧_
 clear hE1 hE2 hP hpl hl
 by_cases h:(46:UInt8)∈t
 ·rw [decide_eq_true h] at C
  rw [if_pos h]
  clear h
  generalize ByteArray.mk (z6v t).toArray=R at *
  generalize ByteArray.mk t.toArray=B at *
  go_enter Tryz.func178,Tryz.ntmps178
  go_wp2_with (first
   | (go_at_call 204;refine (T _).mono ?_;rintro e w' ⟨rfl,rfl⟩)
   | (go_at_call 203;refine (P _).mono ?_;rintro e w1 ⟨rfl,b1⟩;have bx:Box w1 w.heap.size ⟨0,0,0,[]⟩:=(Box.new w 0 0 0 []).later b1;obtain ⟨c0,c1,c2,c3⟩:=bx.at4;have f0:=bx.free 0;have f1:=bx.free 1;have f2:=bx.free 2;have f3:=bx.free 3;have lt1:=bx.lt;clear bx)
   | (go_at_call 205;refine (C _).mono ?_;rintro e w' ⟨rfl,rfl⟩))
  refine bodyPost_ret_by (v:=.tuple #[va 2 U V ⟨#[]⟩,.bool (E==0)]) ?_ rfl ⟨rfl,?_⟩
  ·simp [results,Tryz.results178,go_sem,c0,c1,c2,c3,lt1]
  ·have b0:Below w.heap.size w w1:=((Below.refl _ w).alloc (Nat.le_refl _) _).trans (b1.mono (by simp))
   have hs:=b0.size
   exact ((((((b0.setCell (p:=⟨w.heap.size,0,none⟩) (Nat.le_refl _) _).setCell (p:=⟨w.heap.size,1,none⟩) (Nat.le_refl _) _).setCell (p:=⟨w.heap.size,2,none⟩) (Nat.le_refl _) _).setCell (p:=⟨w.heap.size,3,none⟩) (Nat.le_refl _) _).alloc (by simp;omega) _).alloc (by simp;omega) _)
 ·rw [decide_eq_false h] at C
  rw [if_neg h]
  clear h
  generalize ByteArray.mk (z6v t).toArray=R at *
  generalize ByteArray.mk t.toArray=B at *
  go_enter Tryz.func178,Tryz.ntmps178
  go_wp2_with (first
   | (go_at_call 204;refine (T _).mono ?_;rintro e w' ⟨rfl,rfl⟩)
   | (go_at_call 203;refine (P _).mono ?_;rintro e w1 ⟨rfl,b1⟩;have bx:Box w1 w.heap.size ⟨0,0,0,[]⟩:=(Box.new w 0 0 0 []).later b1;obtain ⟨c0,c1,c2,c3⟩:=bx.at4;have f0:=bx.free 0;have f1:=bx.free 1;have f2:=bx.free 2;have f3:=bx.free 3;have lt1:=bx.lt;clear bx)
   | (go_at_call 205;refine (C _).mono ?_;rintro e w' ⟨rfl,rfl⟩))
  refine bodyPost_ret_by (v:=.tuple #[va 1 U V ⟨#[]⟩,.bool (E==0)]) ?_ rfl ⟨rfl,?_⟩
  ·simp [results,Tryz.results178,go_sem,c0,c1,c2,c3,lt1]
  ·have b0:Below w.heap.size w w1:=((Below.refl _ w).alloc (Nat.le_refl _) _).trans (b1.mono (by simp))
   have hs:=b0.size
   exact ((((((b0.setCell (p:=⟨w.heap.size,0,none⟩) (Nat.le_refl _) _).setCell (p:=⟨w.heap.size,1,none⟩) (Nat.le_refl _) _).setCell (p:=⟨w.heap.size,2,none⟩) (Nat.le_refl _) _).setCell (p:=⟨w.heap.size,3,none⟩) (Nat.le_refl _) _).alloc (by simp;omega) _).alloc (by simp;omega) _)
def tlv (t:List UInt8):Va × Bool :=
 if t.head?=some 39 then (match unqL (t.drop 1) with|none=>(⟨3,0,0,[]⟩,false)|some b=>(⟨3,0,0,b⟩,true)) else tnv t
def litH (t:List UInt8):Prop:=∃ c l,t=c::l∧(c=39∨isD c=true)
theorem lit_ne {t:List UInt8} (h:litH t) (c:UInt8) (l:List UInt8) (hc:c≠39) (hd:isD c=false):((ByteArray.mk t.toArray).toList==c::l)=false:=by
 obtain ⟨d,m,rfl,h⟩:=h
 rw [ByteArray.toList_eq,beq_eq_false_iff_ne]
 intro e
 simp at e
 rcases h with h|h
 ·exact hc (e.1▸h)
 ·rw [e.1,hd] at h;cases h
theorem vtold_any (t:List UInt8) (w:World) (hl:t.length≤140737488351232) (hh:litH t):Calls Tryz.prog 127 #[.string ⟨t.toArray⟩] w fun e w'=>e=.returned (.tuple #[vv (tlv t).1,.bool (tlv t).2])∧Below w.heap.size w w':=by
 have n1:=lit_ne hh 110 [117,108,108] (by decide) (by decide)
 have n2:=lit_ne hh 116 [114,117,101] (by decide) (by decide)
 have n3:=lit_ne hh 102 [97,108,115,101] (by decide) (by decide)
 have H39:∀ W,Calls Tryz.prog 175 #[.string ⟨t.toArray⟩,.string ⟨#[39]⟩] W fun e w'=>e=.returned (.bool (t.head?==some 39))∧W=w':=fun W=>z6y ⟨t.toArray⟩ 39 W (by show t.length≤_;omega)
 have H60:∀ W,Calls Tryz.prog 175 #[.string ⟨t.toArray⟩,.string ⟨#[60]⟩] W fun e w'=>e=.returned (.bool (t.head?==some 60))∧W=w':=fun W=>z6y ⟨t.toArray⟩ 60 W (by show t.length≤_;omega)
 have U:∀ W,Calls Tryz.prog 176 #[.string ⟨t.toArray⟩] W fun e w'=>e=.returned (unqV (unqL (t.drop 1)))∧Below W.heap.size W w':=fun W=>unquoted_any ⟨t.toArray⟩ W hl
 have N:=fun W=>z7g t W hl
 have h60:(t.head?==some 60)=false:=by
  obtain ⟨d,m,rfl,h⟩:=hh
  simp
  rintro rfl
  rcases h with h|h <;> revert h <;> decide
 rw [h60] at H60
 unfold tlv
 by_cases hq:t.head?=some 39
 ·have hq':(t.head?==some 39)=true:=by simpa using hq
  rw [hq'] at H39
  rw [if_pos hq]
  clear N H60 h60 hh hl hq hq'
  cases hu:unqL (t.drop 1) with
  | none =>
   rw [hu] at U
   show Calls _ _ _ _ fun e w'=>e=.returned (.tuple #[va 3 0 0 ⟨#[]⟩,.bool false])∧_
   have U':∀ W,Calls Tryz.prog 176 #[.string ⟨t.toArray⟩] W fun e w'=>e=.returned (.tuple #[.string ⟨#[]⟩,.bool false])∧Below W.heap.size W w':=U
   clear U hu
   generalize ByteArray.mk t.toArray=B at *
   go_enter Tryz.func127,Tryz.ntmps127
   go_wp2_with (first
    | (go_at_call 175;refine (H39 _).mono ?_;rintro e w' ⟨rfl,rfl⟩)
    | (go_at_call 176;refine (U' _).mono ?_;rintro e w1 ⟨rfl,b1⟩;have bx:Box w1 w.heap.size ⟨0,0,0,[]⟩:=(Box.new w 0 0 0 []).later b1;obtain ⟨c0,c1,c2,c3⟩:=bx.at4;have f0:=bx.free 0;have f1:=bx.free 1;have f2:=bx.free 2;have f3:=bx.free 3;have lt1:=bx.lt;clear bx))
   refine bodyPost_ret_by (v:=.tuple #[va 3 0 0 ⟨#[]⟩,.bool false]) ?_ rfl ⟨rfl,?_⟩
   ·simp [results,Tryz.results127,go_sem,c0,c1,c2,c3]
   ·have b0:Below w.heap.size w w1:=((Below.refl _ w).alloc (Nat.le_refl _) _).trans (b1.mono (by simp))
    exact (((b0.setCell (p:=⟨w.heap.size,0,none⟩) (Nat.le_refl _) _).setCell (p:=⟨w.heap.size,1,none⟩) (Nat.le_refl _) _).setCell (p:=⟨w.heap.size,2,none⟩) (Nat.le_refl _) _).setCell (p:=⟨w.heap.size,3,none⟩) (Nat.le_refl _) _
  | some b =>
   rw [hu] at U
   show Calls _ _ _ _ fun e w'=>e=.returned (.tuple #[va 3 0 0 ⟨b.toArray⟩,.bool true])∧_
   have U':∀ W,Calls Tryz.prog 176 #[.string ⟨t.toArray⟩] W fun e w'=>e=.returned (.tuple #[.string ⟨b.toArray⟩,.bool true])∧Below W.heap.size W w':=U
   clear U hu
   generalize ByteArray.mk t.toArray=B at *
   generalize ByteArray.mk b.toArray=C at *
   go_enter Tryz.func127,Tryz.ntmps127
   go_wp2_with (first
    | (go_at_call 175;refine (H39 _).mono ?_;rintro e w' ⟨rfl,rfl⟩)
    | (go_at_call 176;refine (U' _).mono ?_;rintro e w1 ⟨rfl,b1⟩;have bx:Box w1 w.heap.size ⟨0,0,0,[]⟩:=(Box.new w 0 0 0 []).later b1;obtain ⟨c0,c1,c2,c3⟩:=bx.at4;have f0:=bx.free 0;have f1:=bx.free 1;have f2:=bx.free 2;have f3:=bx.free 3;have lt1:=bx.lt;clear bx))
   refine bodyPost_ret_by (v:=.tuple #[va 3 0 0 C,.bool true]) ?_ rfl ⟨rfl,?_⟩
   ·simp [results,Tryz.results127,go_sem,c0,c1,c2,c3]
   ·have b0:Below w.heap.size w w1:=((Below.refl _ w).alloc (Nat.le_refl _) _).trans (b1.mono (by simp))
    exact (((b0.setCell (p:=⟨w.heap.size,0,none⟩) (Nat.le_refl _) _).setCell (p:=⟨w.heap.size,1,none⟩) (Nat.le_refl _) _).setCell (p:=⟨w.heap.size,2,none⟩) (Nat.le_refl _) _).setCell (p:=⟨w.heap.size,3,none⟩) (Nat.le_refl _) _
 ·have hq':(t.head?==some 39)=false:=by simpa using hq
  rw [hq'] at H39
  rw [if_neg hq]
  rcases hx:tnv t with ⟨⟨k,n,m,b⟩,ok⟩
  rw [hx] at N
  show Calls _ _ _ _ fun e w'=>e=.returned (.tuple #[va k n m ⟨b.toArray⟩,.bool ok])∧_
  have N':∀ W,Calls Tryz.prog 178 #[.string ⟨t.toArray⟩] W fun e w'=>e=.returned (.tuple #[va k n m ⟨b.toArray⟩,.bool ok])∧Below W.heap.size W w':=N
  clear N hx h60 hh hl hq hq' U
  generalize ByteArray.mk t.toArray=B at *
  generalize ByteArray.mk b.toArray=C at *
  go_enter Tryz.func127,Tryz.ntmps127
  go_wp2_with (first
   | (go_at_call 175;with_reducible refine (H39 _).mono ?_;rintro e w' ⟨rfl,rfl⟩)
   | (go_at_call 175;with_reducible refine (H60 _).mono ?_;rintro e w' ⟨rfl,rfl⟩)
   | (go_at_call 178;refine (N' _).mono ?_;rintro e w1 ⟨rfl,b1⟩;have bx:Box w1 w.heap.size ⟨0,0,0,[]⟩:=(Box.new w 0 0 0 []).later b1;obtain ⟨c0,c1,c2,c3⟩:=bx.at4;have f0:=bx.free 0;have f1:=bx.free 1;have f2:=bx.free 2;have f3:=bx.free 3;have lt1:=bx.lt;clear bx))
  refine bodyPost_ret_by (v:=.tuple #[va k n m C,.bool ok]) ?_ rfl ⟨rfl,?_⟩
  ·simp [results,Tryz.results127,go_sem,c0,c1,c2,c3]
  ·have b0:Below w.heap.size w w1:=((Below.refl _ w).alloc (Nat.le_refl _) _).trans (b1.mono (by simp))
   exact (((b0.setCell (p:=⟨w.heap.size,0,none⟩) (Nat.le_refl _) _).setCell (p:=⟨w.heap.size,1,none⟩) (Nat.le_refl _) _).setCell (p:=⟨w.heap.size,2,none⟩) (Nat.le_refl _) _).setCell (p:=⟨w.heap.size,3,none⟩) (Nat.le_refl _) _
def dpv (t:List UInt8):Option Va:=if (tlv t).2=true∧pv (tlv t).1=t then some (tlv t).1 else none
def dpR:Option Va→Value
 | none=>.tuple #[va 0 0 0 ⟨#[]⟩,.int .i64 21]
 | some v=>.tuple #[vv v,.int .i64 0]
theorem tlv_kind (t:List UInt8):((tlv t).1.k=1∨(tlv t).1.k=2∨(tlv t).1.k=3)∧(-9223372036854775808≤(tlv t).1.n∧(tlv t).1.n≤9223372036854775807):=by
 unfold tlv
 split
 ·split <;> exact ⟨by simp,by simp⟩
 ·unfold tnv
  split
  ·refine ⟨?_,by simp⟩
   simp only
   split <;> simp
  ·rename_i b n s _
   refine ⟨?_,?_⟩
   ·simp only
    split <;> simp
   ·simp only
    unfold nz
    split
    ·rename_i h
     have:=(z5s _).1 h
     exact this
    ·simp
theorem ba_beq (a b:List UInt8):((ByteArray.mk a.toArray).toList==(ByteArray.mk b.toArray).toList)=decide (a=b):=by
 rw [ByteArray.toList_eq,ByteArray.toList_eq]
 show (a==b)=_
 by_cases h:a=b
 ·subst h;simp
 ·rw [decide_eq_false h,beq_eq_false_iff_ne];exact h
theorem vparse_any (t:List UInt8) (w:World) (hl:t.length≤140737488351232) (hh:litH t) (hT:Tabs w) (hP:Ptab w):Calls Tryz.prog 87 #[.string ⟨t.toArray⟩] w fun e w'=>e=.returned (dpR (dpv t))∧Below w.heap.size w w':=by
 have T:=fun W=>vtold_any t W hl hh
 obtain ⟨hk,hn⟩:=tlv_kind t
 have P:∀ W,Below w.heap.size w W→Calls Tryz.prog 12 #[vv (tlv t).1] W fun e w'=>e=.returned (.string ⟨(pv (tlv t).1).toArray⟩)∧Below W.heap.size W w':=fun W h=>vprint_any _ W (hT.later h) (hP.later h) hk hn
 unfold dpv
 have heq:=ba_beq (pv (tlv t).1) t
 clear hT hP hk hn hh hl
 generalize pv (tlv t).1=q at *
 rcases hx:tlv t with ⟨⟨k,n,m,b⟩,ok⟩
 rw [hx] at T P
 have T':∀ W,Calls Tryz.prog 127 #[.string ⟨t.toArray⟩] W fun e w'=>e=.returned (.tuple #[va k n m ⟨b.toArray⟩,.bool ok])∧Below W.heap.size W w':=T
 have P':∀ W,Below w.heap.size w W→Calls Tryz.prog 12 #[va k n m ⟨b.toArray⟩] W fun e w'=>e=.returned (.string ⟨q.toArray⟩)∧Below W.heap.size W w':=P
 clear T P hx
 simp only
 cases ok with
 | false =>
  rw [if_neg (by simp)]
  show Calls _ _ _ _ fun e w'=>e=.returned (.tuple #[va 0 0 0 ⟨#[]⟩,.int .i64 21])∧_
  clear P' heq
  generalize ByteArray.mk t.toArray=B at *
  go_enter Tryz.func87,Tryz.ntmps87
  go_wp2_with fail
  refine (T' _).mono ?_
  rintro e w1 ⟨rfl,b1⟩
  have bx:Box w1 w.heap.size ⟨0,0,0,[]⟩:=(Box.new w 0 0 0 []).later b1
  have B1:Below w.heap.size w w1:=((Below.refl _ w).alloc (Nat.le_refl _) _).trans (b1.mono (by simp))
  have s1:=B1.size
  obtain ⟨c0,c1,c2,c3⟩:=bx.at4
  have f0:=bx.free 0
  have f1:=bx.free 1
  have f2:=bx.free 2
  have f3:=bx.free 3
  have lt1:=bx.lt
  clear b1 bx
  go_wp2
  refine bodyPost_ret_by (v:=.tuple #[va 0 0 0 ⟨#[]⟩,.int .i64 21]) ?_ rfl ⟨rfl,?_⟩
  ·simp [results,Tryz.results87,go_sem,c0,c1,c2,c3,lt1]
  ·refine Below.alloc ?_ (by simp;omega) _
   have B2:=B1
   exact (((B2.setCell (p:=⟨w.heap.size,0,none⟩) (Nat.le_refl _) _).setCell (p:=⟨w.heap.size,1,none⟩) (Nat.le_refl _) _).setCell (p:=⟨w.heap.size,2,none⟩) (Nat.le_refl _) _).setCell (p:=⟨w.heap.size,3,none⟩) (Nat.le_refl _) _
 | true =>
  by_cases hqt:q=t
  ·rw [if_pos ⟨rfl,hqt⟩]
   rw [decide_eq_true hqt] at heq
   show Calls _ _ _ _ fun e w'=>e=.returned (.tuple #[va k n m ⟨b.toArray⟩,.int .i64 0])∧_
   clear hqt
   generalize ByteArray.mk t.toArray=B at *
   generalize ByteArray.mk q.toArray=D at *
   go_enter Tryz.func87,Tryz.ntmps87
   go_wp2_with fail
   refine (T' _).mono ?_
   rintro e w1 ⟨rfl,b1⟩
   have bx0:Box w1 w.heap.size ⟨0,0,0,[]⟩:=(Box.new w 0 0 0 []).later b1
   have B1:Below w.heap.size w w1:=((Below.refl _ w).alloc (Nat.le_refl _) _).trans (b1.mono (by simp))
   have s1:=B1.size
   clear b1
   go_wp2_with fail
   refine (P' _ (B1.alloc s1 _)).mono ?_
   rintro e w2 ⟨rfl,b2⟩
   have bx1:Box w2 w1.heap.size ⟨k,n,m,b⟩:=(Box.new w1 k n m b).later b2
   have b12:Below w1.heap.size w1 w2:=((Below.refl _ w1).alloc (Nat.le_refl _) _).trans (b2.mono (by simp))
   have bx2:=bx0.later b12
   have B2:Below w.heap.size w w2:=B1.trans (b12.mono s1)
   obtain ⟨c0,c1,c2,c3⟩:=bx1.at4
   obtain ⟨d0,d1,d2,d3⟩:=bx2.at4
   have f0:=bx2.free 0
   have f1:=bx2.free 1
   have f2:=bx2.free 2
   have f3:=bx2.free 3
   have lt1:=bx2.lt
   have lt2:=bx1.lt
   clear bx0 bx1 bx2 B1 b12 b2 P' T'
   go_wp2
   refine bodyPost_ret_by (v:=.tuple #[va k n m ⟨b.toArray⟩,.int .i64 0]) ?_ rfl ⟨rfl,?_⟩
   ·simp [results,Tryz.results87,go_sem,d0,d1,d2,d3]
   ·exact (((B2.setCell (p:=⟨w.heap.size,0,none⟩) (Nat.le_refl _) _).setCell (p:=⟨w.heap.size,1,none⟩) (Nat.le_refl _) _).setCell (p:=⟨w.heap.size,2,none⟩) (Nat.le_refl _) _).setCell (p:=⟨w.heap.size,3,none⟩) (Nat.le_refl _) _
  ·rw [if_neg (by rintro ⟨_,h⟩;exact hqt h)]
   rw [decide_eq_false hqt] at heq
   show Calls _ _ _ _ fun e w'=>e=.returned (.tuple #[va 0 0 0 ⟨#[]⟩,.int .i64 21])∧_
   clear hqt
   generalize ByteArray.mk t.toArray=B at *
   generalize ByteArray.mk q.toArray=D at *
   go_enter Tryz.func87,Tryz.ntmps87
   go_wp2_with fail
   refine (T' _).mono ?_
   rintro e w1 ⟨rfl,b1⟩
   have bx0:Box w1 w.heap.size ⟨0,0,0,[]⟩:=(Box.new w 0 0 0 []).later b1
   have B1:Below w.heap.size w w1:=((Below.refl _ w).alloc (Nat.le_refl _) _).trans (b1.mono (by simp))
   have s1:=B1.size
   clear b1
   go_wp2_with fail
   refine (P' _ (B1.alloc s1 _)).mono ?_
   rintro e w2 ⟨rfl,b2⟩
   have bx1:Box w2 w1.heap.size ⟨k,n,m,b⟩:=(Box.new w1 k n m b).later b2
   have b12:Below w1.heap.size w1 w2:=((Below.refl _ w1).alloc (Nat.le_refl _) _).trans (b2.mono (by simp))
   have bx2:=bx0.later b12
   have B2:Below w.heap.size w w2:=B1.trans (b12.mono s1)
   obtain ⟨d0,d1,d2,d3⟩:=bx2.at4
   have f0:=bx2.free 0
   have f1:=bx2.free 1
   have f2:=bx2.free 2
   have f3:=bx2.free 3
   have lt1:=bx2.lt
   clear bx0 bx1 bx2 B1 b12 b2 P' T'
   go_wp2
   refine bodyPost_ret_by (v:=.tuple #[va 0 0 0 ⟨#[]⟩,.int .i64 21]) ?_ rfl ⟨rfl,?_⟩
   ·simp [results,Tryz.results87,go_sem,d0,d1,d2,d3]
   ·exact (((B2.setCell (p:=⟨w.heap.size,0,none⟩) (Nat.le_refl _) _).setCell (p:=⟨w.heap.size,1,none⟩) (Nat.le_refl _) _).setCell (p:=⟨w.heap.size,2,none⟩) (Nat.le_refl _) _).setCell (p:=⟨w.heap.size,3,none⟩) (Nat.le_refl _) _
end Go.Proofs.YtljkonkfeiojnaaGreatDoor

namespace Go.Proofs.YtljkonkfeiojnaaGreatDoor
open Go.RowKit
def bat (l:List UInt8) (i:Nat):UInt8:=l.getD i 0
theorem byteAt_any (l:List UInt8) (i:Nat) (w:World):Calls Tryz.prog 86 #[.string ⟨l.toArray⟩,.int .i64 (i:Int)] w fun e w'=>e=.returned (.int .u8 ((bat l i).toNat:Int))∧w=w':=by
 have hs:(ByteArray.mk l.toArray).size=l.length:=rfl
 by_cases h:i<l.length
 ·have h1:(i:Int)<(l.length:Int):=by omega
  have h2:(0:Int)≤(i:Int):=by omega
  have hg:∀ h,(ByteArray.mk l.toArray)[i]'h=bat l i:=fun h'=>by
   show l[i]=_
   unfold bat
   simp [List.getD,h]
  generalize bat l i=c at *
  generalize ByteArray.mk l.toArray=B at *
  go_enter Tryz.func86,Tryz.ntmps86
  go_wp2
  go_ret
  exact ⟨rfl,rfl⟩
 ·have h1:¬ (i:Int)<(l.length:Int):=by omega
  have hg:bat l i=0:=by
   unfold bat
   rw [List.getD_eq_getElem?_getD,List.getElem?_eq_none (by omega)]
   rfl
  rw [hg]
  generalize ByteArray.mk l.toArray=B at *
  go_enter Tryz.func86,Tryz.ntmps86
  go_wp2
  go_ret
  exact ⟨rfl,rfl⟩
theorem isDigit_any (c:UInt8) (w:World):Calls Tryz.prog 101 #[.int .u8 (c.toNat:Int)] w fun e w'=>e=.returned (.bool (isD c))∧w=w':=by
 have e:isD c=(decide ((48:Int)≤(c.toNat:Int))&&decide ((c.toNat:Int)≤57)):=by
  unfold isD
  have e1:decide (48≤c.toNat)=decide ((48:Int)≤(c.toNat:Int)):=by simp;omega
  have e2:decide (c.toNat≤57)=decide ((c.toNat:Int)≤57):=by simp;omega
  rw [e1,e2]
 rw [e]
 generalize (c.toNat:Int)=n
 by_cases h1:(48:Int)≤n
 ·rw [decide_eq_true h1]
  go_enter Tryz.func101,Tryz.ntmps101
  go_wp2
  go_ret
  exact ⟨rfl,rfl⟩
 ·rw [decide_eq_false h1]
  go_enter Tryz.func101,Tryz.ntmps101
  go_wp2
  go_ret
  exact ⟨rfl,rfl⟩
theorem isLetter_any (c:UInt8) (w:World):Calls Tryz.prog 100 #[.int .u8 (c.toNat:Int)] w fun e w'=>e=.returned (.bool (isL c))∧w=w':=by
 have e:isL c=((decide ((97:Int)≤(c.toNat:Int))&&decide ((c.toNat:Int)≤122)) || ((c.toNat:Int)==95)):=by
  unfold isL
  have e1:decide (97≤c.toNat)=decide ((97:Int)≤(c.toNat:Int)):=by simp;omega
  have e2:decide (c.toNat≤122)=decide ((c.toNat:Int)≤122):=by simp;omega
  have e3:decide (c.toNat=95)=((c.toNat:Int)==95):=by
   by_cases h:c.toNat=95
   ·rw [h];rfl
   ·rw [decide_eq_false h];symm;rw [beq_eq_false_iff_ne];omega
  rw [e1,e2,e3]
 rw [e]
 generalize (c.toNat:Int)=n
 by_cases h1:(97:Int)≤n
 ·rw [decide_eq_true h1]
  by_cases h2:n≤122
  ·rw [decide_eq_true h2]
   go_enter Tryz.func100,Tryz.ntmps100
   go_wp2
   go_ret
   exact ⟨rfl,rfl⟩
  ·rw [decide_eq_false h2]
   go_enter Tryz.func100,Tryz.ntmps100
   go_wp2
   go_ret
   exact ⟨rfl,rfl⟩
 ·rw [decide_eq_false h1]
  go_enter Tryz.func100,Tryz.ntmps100
  go_wp2
  go_ret
  exact ⟨rfl,rfl⟩
theorem z8z (B:ByteArray) (w:World):Calls Tryz.prog 75 #[.string B] w fun e w'=>e=.returned (.bool (decide (B.size≤32)))∧w=w':=by
 have h:decide (B.size≤32)=decide ((B.size:Int)≤32):=by simp;omega
 rw [h]
 go_enter Tryz.func75,Tryz.ntmps75
 go_wp2
 go_ret
 exact ⟨rfl,rfl⟩
theorem ixb_at (B:ByteArray) (c:UInt8) (r:Int) (h:firstIdx B c=r) (w:World):(callFunc 174 #[.string B,.int .u8 (c.toNat:Int)]).run Tryz.prog w=.ok (.value (.int .i64 r)) w:=by
 rw [run_callFunc_extern Tryz.func174 gK gK gK (e:=Extern.BytealgIndexByte.indexByte) gK,run_indexByte_string]
 rw [show ((c.toNat:Int).toNat.toUInt8)=c by simp,h]
 rfl
theorem ixbLite_any (B:ByteArray) (c:UInt8) (w:World):Calls Tryz.prog 126 #[.string B,.int .u8 (c.toNat:Int)] w fun e w'=>e=.returned (.int .i64 (firstIdx B c))∧w=w':=by
 have F:=fun w=>ixb_at B c _ rfl w
 generalize firstIdx B c=r at *
 generalize (c.toNat:Int)=n at *
 go_enter Tryz.func126,Tryz.ntmps126
 go_wp2
 go_ret
 exact ⟨rfl,rfl⟩
theorem z5t (B:ByteArray) (c:UInt8) (w:World):Calls Tryz.prog 85 #[.string B,.int .u8 (c.toNat:Int)] w fun e w'=>e=.returned (.int .i64 (firstIdx B c))∧w=w':=by
 have F:=fun w=>ixbLite_any B c w
 generalize firstIdx B c=r at *
 generalize (c.toNat:Int)=n at *
 go_enter Tryz.func85,Tryz.ntmps85
 go_wp2_with (go_at_call 126;refine (F _).mono ?_;rintro e w' ⟨rfl,rfl⟩)
 go_ret
 exact ⟨rfl,rfl⟩
theorem blanks_idx (c:UInt8):decide ((0:Int)≤firstIdx ⟨#[32,9,10]⟩ c)=isB c:=by
 have h:∀ n:Nat,n<256→decide ((0:Int)≤firstIdx ⟨#[32,9,10]⟩ n.toUInt8)=isB n.toUInt8:=by decide +kernel
 have:=h c.toNat c.toNat_lt
 simpa using this
theorem signs_idx (c:UInt8):decide ((0:Int)≤firstIdx ⟨#[40,41,44,46,59,42,43,45,47,37,61]⟩ c)=isS c:=by
 have h:∀ n:Nat,n<256→decide ((0:Int)≤firstIdx ⟨#[40,41,44,46,59,42,43,45,47,37,61]⟩ n.toUInt8)=isS n.toUInt8:=by decide +kernel
 have:=h c.toNat c.toNat_lt
 simpa using this
theorem z4t (l:List UInt8) (i:Nat) (h:i<l.length):l.drop i=bat l i::l.drop (i+1):=by
 rw [List.drop_eq_getElem_cons h]
 unfold bat
 simp [List.getD,h]
theorem z6d (l:List UInt8) (i:Nat) (h:l.length≤i):bat l i=0:=by
 unfold bat
 rw [List.getD_eq_getElem?_getD,List.getElem?_eq_none (by omega)]
 rfl
theorem pastBlanks_any (l:List UInt8) (i:Nat) (w:World) (hl:l.length≤140737488351232) (hi:i≤l.length):Calls Tryz.prog 64 #[.string ⟨l.toArray⟩,.int .i64 (i:Int)] w fun e w'=>e=.returned (.int .i64 ((i+z1d (l.drop i):Nat):Int))∧w=w':=by
 have B:∀ k W,Calls Tryz.prog 86 #[.string ⟨l.toArray⟩,.int .i64 ((k:Nat):Int)] W fun e w'=>e=.returned (.int .u8 ((bat l k).toNat:Int))∧W=w':=fun k W=>byteAt_any l k W
 have X:∀ (c:UInt8) W,Calls Tryz.prog 85 #[.string ⟨#[32,9,10]⟩,.int .u8 (c.toNat:Int)] W fun e w'=>e=.returned (.int .i64 (firstIdx ⟨#[32,9,10]⟩ c))∧W=w':=fun c W=>z5t _ c W
 obtain ⟨R,hR⟩:∃ R,R=i+z1d (l.drop i):=⟨_,rfl⟩
 rw [← hR]
 have HR:Hid (R=i+z1d (l.drop i)):=hR
 clear hR
 go_enter Tryz.func64,Tryz.ntmps64
 go_wp2
 go_loopw [1] (fun r wr=>∃ k:Nat,r=.int .i64 (k:Int)∧k≤l.length∧w=wr∧Hid (R=k+z1d (l.drop k))) (fun r _=>l.length - (intOf r).toNat)
 case atStart=>exact ⟨i,rfl,hi,rfl,HR⟩
 case round =>
  obtain ⟨k,rfl,hk,rfl,hH⟩:=hrel
  have Bk:=B k
  have Xk:=X (bat l k)
  have e:=blanks_idx (bat l k)
  cases hb:isB (bat l k) with
  | true =>
   rw [hb] at e
   have e':=of_decide_eq_true e
   have hlt:k<l.length:=by
    rcases Nat.lt_or_ge k l.length with h|h
    ·exact h
    ·rw [z6d l k h] at hb;cases hb
   have hH':Hid (R=(k+1)+z1d (l.drop (k+1))):=by
    show R=_
    rw [hH.out,z4t l k hlt]
    simp only [z1d,hb,if_true]
    omega
   generalize firstIdx ⟨#[32,9,10]⟩ (bat l k)=q at *
   generalize ((bat l k).toNat:Int)=c at *
   clear B X hb e hH HR
   generalize ByteArray.mk l.toArray=S at *
   go_wp2_with (first
    | (go_at_call 86;refine (Bk _).mono ?_;rintro e w' ⟨rfl,rfl⟩)
    | (go_at_call 85;refine (Xk _).mono ?_;rintro e w' ⟨rfl,rfl⟩))
   go_roundw
   case rel=>exact ⟨k+1,by go_num,by omega,trivial,hH'⟩
   case measure=>simp [intOf];omega
  | false =>
   rw [hb] at e
   have e':=of_decide_eq_false e
   have hH':Hid (R=k):=by
    show R=_
    rw [hH.out]
    rcases Nat.lt_or_ge k l.length with h|h
    ·rw [z4t l k h];simp [z1d,hb]
    ·rw [List.drop_eq_nil_of_le h];simp [z1d]
   generalize firstIdx ⟨#[32,9,10]⟩ (bat l k)=q at *
   generalize ((bat l k).toNat:Int)=c at *
   clear B X hb e hH HR
   generalize ByteArray.mk l.toArray=S at *
   go_wp2_with (first
    | (go_at_call 86;refine (Bk _).mono ?_;rintro e w' ⟨rfl,rfl⟩)
    | (go_at_call 85;refine (Xk _).mono ?_;rintro e w' ⟨rfl,rfl⟩))
   go_ret
   exact ⟨by rw [hH'.out];rfl,rfl⟩
end Go.Proofs.YtljkonkfeiojnaaGreatDoor
