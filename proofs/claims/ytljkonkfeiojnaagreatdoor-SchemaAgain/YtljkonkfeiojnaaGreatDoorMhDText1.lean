/-
  A text parted at its first point, as a list of bytes. Nothing of the program is in it.
  The library's CutPrefix and Cut at texts of one sign, and rightWhole and rightPart of package decimal: for every text.
  The document's Digits: the digits of a number.
-/
import Derived.Laws.Externs
import Derived.Test.YtljkonkfeiojnaaGreatDoorChecked
import Derived.Test.YtljkonkfeiojnaaGreatDoorMeDWide3
import Derived.WalkKit
import Derived.WalkSpells
import Derived.WalkLawsBesides
import Derived.Laws.IdiomStrings
import Derived.Deep.RegionWith
import Derived.Test.YtljkonkfeiojnaaGreatDoorDArith
set_option maxRecDepth 10000
namespace Go.Proofs.YtljkonkfeiojnaaGreatDoor
def z1p:List UInt8→List UInt8 × List UInt8 × Bool
 | []=>([],[],false)
 | c::l=>if c=46 then ([],l,true) else (c::(z1p l).1,(z1p l).2.1,(z1p l).2.2)
theorem cutPt_back (l:List UInt8):l=(z1p l).1++(if (z1p l).2.2 then 46::(z1p l).2.1 else [])∧((z1p l).2.2=false→(z1p l).2.1=[]):=by
 induction l with
 | nil=>exact ⟨rfl,fun _=>rfl⟩
 | cons c l ih =>
  unfold z1p
  by_cases h:c=46
  ·rw [if_pos h];subst h;exact ⟨rfl,by simp⟩
  ·rw [if_neg h]
   refine ⟨?_,ih.2⟩
   show c::l=(c::(z1p l).1)++_
   rw [List.cons_append,← ih.1]
theorem cutPt_none (l:List UInt8) (h:∀ c∈l,c≠46):z1p l=(l,[],false):=by
 induction l with
 | nil=>rfl
 | cons c l ih =>
  unfold z1p
  rw [if_neg (h c (by simp)),ih (fun d hd=>h d (by simp [hd]))]
theorem cutPt_some (l r:List UInt8) (h:∀ c∈l,c≠46):z1p (l++46::r)=(l,r,true):=by
 induction l with
 | nil=>unfold z1p;simp
 | cons c l ih =>
  show z1p (c::(l++46::r))=_
  unfold z1p
  rw [if_neg (h c (by simp)),ih (fun d hd=>h d (by simp [hd]))]
def z7v (l:List UInt8):Bool:=!l.isEmpty&&(l==[48] || !(l.head?==some 48))
def z5c (l:List UInt8):Bool:=!l.isEmpty&&decide (l.length≤6)
theorem ba_get (l:List UInt8) (i:Nat) (h:i<l.length):(ByteArray.mk l.toArray)[i]! = l[i]:=by
 rw [getElem!_pos _ i (show i<(ByteArray.mk l.toArray).size from h)]
 rfl
theorem first_cut (l:List UInt8):(firstIdx ⟨l.toArray⟩ 46=-1∧z1p l=(l,[],false))∨(∃ i:Nat,firstIdx ⟨l.toArray⟩ 46=(i:Int)∧i<l.length∧z1p l=(l.take i,l.drop (i+1),true)):=by
 unfold firstIdx
 have hs:(ByteArray.mk l.toArray).size=l.length:=rfl
 rw [hs]
 cases h:(List.range l.length).find? (fun i=>(ByteArray.mk l.toArray)[i]! == 46) with
 | none =>
  left
  refine ⟨rfl,cutPt_none l ?_⟩
  rw [List.find?_range_eq_none] at h
  intro c hc e
  obtain ⟨i,hi,rfl⟩:=List.getElem_of_mem hc
  have:=h i hi
  rw [ba_get l i hi,e] at this
  simp at this
 | some i =>
  right
  rw [List.find?_range_eq_some] at h
  obtain ⟨h1,h2,h3⟩:=h
  have hi:i<l.length:=by simpa using h2
  refine ⟨i,rfl,hi,?_⟩
  rw [ba_get l i hi] at h1
  have e:l[i]=46:=eq_of_beq h1
  have hsplit:l=l.take i++46::l.drop (i+1):=by
   rw [← e,← List.drop_eq_getElem_cons hi,List.take_append_drop]
  conv=>lhs;rw [hsplit]
  refine cutPt_some _ _ ?_
  intro c hc e2
  obtain ⟨j,hj,rfl⟩:=List.getElem_of_mem hc
  have hj':j<i:=by rw [List.length_take] at hj;omega
  have:=h3 j hj'
  rw [ba_get l j (by omega)] at this
  rw [List.getElem_take] at e2
  rw [e2] at this
  simp at this
end Go.Proofs.YtljkonkfeiojnaaGreatDoor

namespace Go.Proofs.YtljkonkfeiojnaaGreatDoor
open Go.RowKit
theorem z3v (l:List UInt8) (a b:Nat):(ByteArray.mk l.toArray).extract a b=⟨((l.take b).drop a).toArray⟩:=by
 apply ByteArray.ext
 simp [ByteArray.data_extract]
 exact (List.drop_take ..).symm
theorem not_empty (c:UInt8) (l:List UInt8):(ByteArray.mk (c::l).toArray).toList.isEmpty=false:=by
 rw [← decide_eq_emptyBytes]
 refine decide_eq_false ?_
 intro h
 have:=congrArg ByteArray.size h
 exact absurd this (by show ¬ (c::l).length=0;simp)
theorem rightPart_any (l:List UInt8) (w:World):Calls Tryz.prog 225 #[.string ⟨l.toArray⟩] w fun e w'=>e=.returned (.bool (z5c l))∧w=w':=by
 match l with
 | [] =>
  go_enter Tryz.func225,Tryz.ntmps225
  go_wp2
  all_goals go_ret
  all_goals exact ⟨rfl,rfl⟩
 | c::l =>
  have h0:=not_empty c l
  have hs:(ByteArray.mk (c::l).toArray).size=l.length+1:=rfl
  have e:z5c (c::l)=decide ((l.length:Int)+1≤6):=by simp [z5c];omega
  rw [e]
  generalize ByteArray.mk (c::l).toArray=B at *
  clear e
  go_enter Tryz.func225,Tryz.ntmps225
  go_wp2
  all_goals go_ret
  all_goals exact ⟨rfl,rfl⟩
theorem rightWhole_any (l:List UInt8) (w:World):Calls Tryz.prog 224 #[.string ⟨l.toArray⟩] w fun e w'=>e=.returned (.bool (z7v l))∧w=w':=by
 match l with
 | [] =>
  go_enter Tryz.func224,Tryz.ntmps224
  go_wp2
  all_goals go_ret
  all_goals exact ⟨rfl,rfl⟩
 | c::l =>
  have h0:=not_empty c l
  have hs:(ByteArray.mk (c::l).toArray).size=l.length+1:=rfl
  have hg:∀ h,(ByteArray.mk (c::l).toArray)[0]'h=c:=fun h=>rfl
  by_cases h1:c::l=[48]
  ·rw [h1]
   go_enter Tryz.func224,Tryz.ntmps224
   go_wp2
   all_goals go_ret
   all_goals exact ⟨rfl,rfl⟩
  ·have h2:((ByteArray.mk (c::l).toArray).toList==[48])=false:=by
    rw [ByteArray.toList_eq]
    exact beq_eq_false_iff_ne.2 h1
   by_cases h3:c=48
   ·have e:z7v (c::l)=false:=by simp [z7v,h3];rw [h3] at h1;simpa using h1
    have h4:(c.toNat:Int)=48:=by rw [h3];rfl
    rw [e]
    generalize ByteArray.mk (c::l).toArray=B at *
    clear e h1
    go_enter Tryz.func224,Tryz.ntmps224
    go_wp2
    all_goals go_ret
    all_goals exact ⟨rfl,rfl⟩
   ·have e:z7v (c::l)=true:=by simp [z7v,h3]
    have h4:¬ (c.toNat:Int)=48:=by
     intro h
     have h5:c.toNat=48:=by omega
     exact h3 (UInt8.toNat_inj.1 h5)
    have h5:((c.toNat:Int) != 48)=true:=by simpa using h4
    rw [e,← h5]
    generalize ByteArray.mk (c::l).toArray=B at *
    clear e h1 h3 h4 h5
    go_enter Tryz.func224,Tryz.ntmps224
    go_wp2
    all_goals go_ret
    all_goals exact ⟨rfl,rfl⟩
theorem cutPrefix_any (l:List UInt8) (w:World) (hl:l.length≤9223372036854775806) :
  Calls Tryz.prog 223 #[.string ⟨l.toArray⟩,.string ⟨#[45]⟩] w fun e w'=>e=.returned (.tuple #[.string ⟨(if l.head?=some 45 then l.drop 1 else l).toArray⟩,.bool (decide (l.head?=some 45))])∧w=w':=by
 match l,hl with
 | [],_ =>
  go_enter Tryz.func223,Tryz.ntmps223
  go_wp2
  refine bodyPost_ret_by (v:=.tuple #[.string ⟨#[]⟩,.bool false]) ?_ rfl ⟨rfl,rfl⟩
  simp [results,Tryz.results223,go_sem]
 | c::l,hl =>
  have hs:(ByteArray.mk (c::l).toArray).size=l.length+1:=rfl
  have hx:(((ByteArray.mk (c::l).toArray).extract 0 1).toList==[45])=decide (c=45):=by
   rw [z3v,ByteArray.toList_eq]
   show ([c]==[45])=_
   by_cases h:c=45 <;> simp [h]
  have hy:(ByteArray.mk (c::l).toArray).extract 1 (l.length+1)=⟨l.toArray⟩:=by
   rw [z3v]
   show (⟨(((c::l).take (l.length+1)).drop 1).toArray⟩:ByteArray)=_
   rw [List.take_of_length_le (by simp)]
   rfl
  have hl1:l.length≤9223372036854775805:=by simp at hl;omega
  have h1:((l.length+1:Nat):Int)=(l.length:Int)+1:=by omega
  have h2:(1:Int)≤(l.length:Int)+1:=by omega
  by_cases hc:c=45
  ·have e1:(c::l).head?=some 45:=by rw [hc];rfl
   rw [if_pos e1,decide_eq_true e1]
   rw [decide_eq_true hc] at hx
   show Calls Tryz.prog 223 #[.string ⟨(c::l).toArray⟩,.string ⟨#[45]⟩] w fun e w'=>e=.returned (.tuple #[.string ⟨l.toArray⟩,.bool true])∧w=w'
   generalize ByteArray.mk (c::l).toArray=B at *
   generalize ByteArray.mk l.toArray=R at *
   clear e1 hc hl
   go_enter Tryz.func223,Tryz.ntmps223
   go_wp2
   refine bodyPost_ret_by (v:=.tuple #[.string R,.bool true]) ?_ rfl ⟨rfl,rfl⟩
   simp [results,Tryz.results223,go_sem]
  ·have e1:¬ (c::l).head?=some 45:=by simpa using hc
   rw [if_neg e1,decide_eq_false e1]
   rw [decide_eq_false hc] at hx
   generalize ByteArray.mk (c::l).toArray=B at *
   clear e1 hc hl hy
   go_enter Tryz.func223,Tryz.ntmps223
   go_wp2
   refine bodyPost_ret_by (v:=.tuple #[.string B,.bool false]) ?_ rfl ⟨rfl,rfl⟩
   simp [results,Tryz.results223,go_sem]
theorem indexByte_at (B:ByteArray) (r:Int) (h:firstIdx B 46=r) (w:World):(callFunc 174 #[.string B,.int .u8 46]).run Tryz.prog w=.ok (.value (.int .i64 r)) w:=by
 rw [run_callFunc_extern Tryz.func174 gK gK gK (e:=Extern.BytealgIndexByte.indexByte) gK,run_indexByte_string]
 rw [show ((46:Int).toNat.toUInt8)=46 from rfl,h]
 rfl
theorem index_any (l:List UInt8) (w:World):Calls Tryz.prog 231 #[.string ⟨l.toArray⟩,.string ⟨#[46]⟩] w fun e w'=>e=.returned (.int .i64 (firstIdx ⟨l.toArray⟩ 46))∧w=w':=by
 have hc:∀ h,(ByteArray.mk #[46])[0]'h=46:=fun h=>rfl
 by_cases hd:l=[46]
 ·have hx2:(([46]:List UInt8)==(ByteArray.mk l.toArray).toList)=true:=by
   rw [ByteArray.toList_eq,hd];rfl
  have hx:(({ data:=#[46] }:ByteArray).toList==(ByteArray.mk l.toArray).toList)=true:=by
   rw [ByteArray.toList_eq,ByteArray.toList_eq,hd];rfl
  have e:firstIdx ⟨l.toArray⟩ 46=0:=by rw [hd];decide +kernel
  rw [e]
  generalize ByteArray.mk l.toArray=B at *
  clear hd e
  go_enter Tryz.func231,Tryz.ntmps231
  go_wp2
  all_goals go_ret
  all_goals exact ⟨rfl,rfl⟩
 ·have hx:(({ data:=#[46] }:ByteArray).toList==(ByteArray.mk l.toArray).toList)=false:=by
   rw [ByteArray.toList_eq,ByteArray.toList_eq]
   exact beq_eq_false_iff_ne.2 (fun h=>hd h.symm)
  have hx2:(([46]:List UInt8)==(ByteArray.mk l.toArray).toList)=false:=by
   rw [ByteArray.toList_eq]
   exact beq_eq_false_iff_ne.2 (fun h=>hd h.symm)
  have F:=fun w=>indexByte_at _ _ (rfl:firstIdx ⟨l.toArray⟩ 46=_) w
  generalize firstIdx ⟨l.toArray⟩ 46=r at *
  generalize ByteArray.mk l.toArray=B at *
  clear hd
  go_enter Tryz.func231,Tryz.ntmps231
  go_wp2
  all_goals go_ret
  all_goals exact ⟨rfl,rfl⟩
theorem cutlite_any (l:List UInt8) (w:World) (hl:l.length≤9223372036854775806) :
  Calls Tryz.prog 214 #[.string ⟨l.toArray⟩,.string ⟨#[46]⟩] w fun e w'=>e=.returned (.tuple #[.string ⟨(z1p l).1.toArray⟩,.string ⟨(z1p l).2.1.toArray⟩,.bool (z1p l).2.2])∧Grew w w':=by
 have hs:(ByteArray.mk l.toArray).size=l.length:=rfl
 have I:=fun W=>index_any l W
 rcases first_cut l with ⟨h1,h2⟩|⟨i,h1,h2,h3⟩
 ·rw [h1] at I
  rw [h2]
  show Calls Tryz.prog 214 #[.string ⟨l.toArray⟩,.string ⟨#[46]⟩] w fun e w'=>e=.returned (.tuple #[.string ⟨l.toArray⟩,.string ⟨#[]⟩,.bool false])∧Grew w w'
  generalize ByteArray.mk l.toArray=B at *
  clear h1 h2 hl
  go_enter Tryz.func214,Tryz.ntmps214
  go_wp2_with (go_at_call 231;refine (I _).mono ?_;rintro e w' ⟨rfl,rfl⟩)
  refine bodyPost_ret_by (v:=.tuple #[.string B,.string ⟨#[]⟩,.bool false]) ?_ rfl ⟨rfl,Grew.refl _⟩
  simp [results,Tryz.results214,go_sem]
 ·have hy:(ByteArray.mk l.toArray).extract 0 i=⟨(l.take i).toArray⟩:=by rw [z3v];rfl
  have hz:(ByteArray.mk l.toArray).extract (i+1) l.length=⟨(l.drop (i+1)).toArray⟩:=by rw [z3v,List.take_length]
  rw [h1] at I
  rw [h3]
  show Calls Tryz.prog 214 #[.string ⟨l.toArray⟩,.string ⟨#[46]⟩] w fun e w'=>e=.returned (.tuple #[.string ⟨(l.take i).toArray⟩,.string ⟨(l.drop (i+1)).toArray⟩,.bool true])∧Grew w w'
  generalize ByteArray.mk l.toArray=B at *
  generalize ByteArray.mk (l.take i).toArray=R1 at *
  generalize ByteArray.mk (l.drop (i+1)).toArray=R2 at *
  have i0:(0:Int)≤(i:Int):=by omega
  have i1:(i:Int)<(l.length:Int):=by omega
  have i2:IntKind.i64.wrap ((i:Int)+1)=(i:Int)+1:=by rw [IntKind.wrap_i64];omega
  have i3:(0:Int)≤(i:Int)+1:=by omega
  have i4:(i:Int)+1≤(l.length:Int):=by omega
  have i5:((i:Int)+1).toNat=i+1:=by omega
  have i6:(i:Int)≤(l.length:Int):=by omega
  clear h1 h3 hl
  go_enter Tryz.func214,Tryz.ntmps214
  go_wp2_with (go_at_call 231;refine (I _).mono ?_;rintro e w' ⟨rfl,rfl⟩)
  go_region_with fail
  all_goals go_wp2
  all_goals refine bodyPost_ret_by (v:=.tuple #[.string R1,.string R2,.bool true]) ?_ rfl ⟨rfl,?_⟩
  all_goals first
   | (simp [results,Tryz.results214,go_sem];done)
   | (repeat exact gA)
theorem cut_any (l:List UInt8) (w:World) (hl:l.length≤9223372036854775806) :
  Calls Tryz.prog 200 #[.string ⟨l.toArray⟩,.string ⟨#[46]⟩] w fun e w'=>e=.returned (.tuple #[.string ⟨(z1p l).1.toArray⟩,.string ⟨(z1p l).2.1.toArray⟩,.bool (z1p l).2.2])∧Grew w w':=by
 have C:=fun W=>cutlite_any l W hl
 generalize ByteArray.mk l.toArray=B at *
 generalize ByteArray.mk (z1p l).1.toArray=R1 at *
 generalize ByteArray.mk (z1p l).2.1.toArray=R2 at *
 generalize (z1p l).2.2=b at *
 clear hl
 go_enter Tryz.func200,Tryz.ntmps200
 go_wp2_with (go_at_call 214;refine (C _).mono ?_;rintro e w' ⟨rfl,os,n,rfl⟩)
 refine bodyPost_ret_by (v:=.tuple #[.string R1,.string R2,.bool b]) ?_ rfl ⟨rfl,?_⟩
 ·simp [results,Tryz.results200,go_sem]
 ·exact gA
end Go.Proofs.YtljkonkfeiojnaaGreatDoor

namespace Go.Proofs.YtljkonkfeiojnaaGreatDoor
open Go.RowKit
attribute [local go_sem] z0f z0b z0c z0e z0m z0k z0h z0d z0g
def digs (u:Nat):List UInt8:=if h:u<10 then [UInt8.ofNat (48+u)] else digs (u / 10)++[UInt8.ofNat (48+u%10)]
 termination_by u
 decreasing_by omega
theorem z1k (u:Nat) (h:u<10):digs u=[UInt8.ofNat (48+u)]:=by rw [digs,dif_pos h]
theorem z3c (u:Nat) (h:¬ u<10):digs u=digs (u / 10)++[UInt8.ofNat (48+u%10)]:=by rw [digs,dif_neg h]
theorem z9r (k:Nat):∀ u,u<10^(k+1)→(digs u).length≤k+1:=by
 induction k with
 | zero=>intro u h;rw [z1k u (by simpa using h)];simp
 | succ k ih =>
  intro u h
  by_cases h9:u<10
  ·rw [z1k u h9];simp
  ·rw [z3c u h9,List.length_append]
   have:=ih (u / 10) (by rw [Nat.pow_succ] at h;omega)
   simp;omega
theorem ba_app (a b:List UInt8):(⟨a.toArray⟩:ByteArray)++⟨b.toArray⟩=⟨(a++b).toArray⟩:=by
 apply ByteArray.ext
 simp
end Go.Proofs.YtljkonkfeiojnaaGreatDoor
