/-
  The contracts of datum.quoted and datum.unquoted.
-/
import Derived.Test.YtljkonkfeiojnaaGreatDoorMaLJumps
import Derived.WalkMore
set_option maxHeartbeats 4000000
set_option maxRecDepth 20000
namespace Go.Proofs.YtljkonkfeiojnaaGreatDoor
open Go.RowKit
theorem z8d {P:Program} {a:Act} {w:World} {Q:Exit→Act→World→Prop} {p1 p2 rest:Code} (l:Nat) (J:Act→World→Prop) (μ:Act→World→Nat)
  (hf:findLabel (p1.seq (p2.seq ((Code.label l).seq rest))) l=some (Code.skip.seq rest))
  (start:p1.wp P (Exit.then (fun a w=>p2.wp P (Exit.then J (Exit.jump l J Q)) a w) (Exit.jump l J Q)) a w)
  (pass:∀ a w,J a w→rest.wp P (Exit.jump l (fun a' w'=>J a' w'∧μ a' w' < μ a w) Q) a w) :
  (Code.scope (p1.seq (p2.seq ((Code.label l).seq rest)))).wp P Q a w:=by
 refine wp_scope_jumps l J μ hf ?_ fun a w h=>wp_seq (wp_skip (pass a w h))
 apply wp_seq
 refine wp_mono start fun e a0 w0 h0=>?_
 cases e with
 | normal =>
  apply wp_seq
  refine wp_mono h0 fun e a1 w1 h1=>?_
  cases e with
  | normal =>
   apply wp_seq
   apply wp_label
   refine wp_mono (pass a1 w1 h1) fun e2 a2 w2 h2=>?_
   cases e2 with
   | goto l'=>exact ⟨h2.1,h2.2.1⟩
   | _=>exact h2
  | _=>exact h1
 | _=>exact h0
def unqL:List UInt8→Option (List UInt8)
 | []=>none
 | c::l=>if c=39 then (match l with
   | []=>some []
   | d::l'=>if d=39 then (unqL l').map (39::·) else none)
  else (unqL l).map (c::·)
theorem unq_other (c:UInt8) (l:List UInt8) (h:¬ c=39):unqL (c::l)=(unqL l).map (c::·):=by
 rw [unqL.eq_def]
 simp only [if_neg h]
theorem unq_two (l:List UInt8):unqL (39::39::l)=(unqL l).map (39::·):=by
 rw [unqL.eq_def]
 simp
def dbl (l:List UInt8):List UInt8:=l.flatMap fun c=>if c=39 then [39,39] else [c]
def quoL (l:List UInt8):List UInt8:=39::(dbl l++[39])
def unqV (r:Option (List UInt8)):Value:=match r with
 | none=>.tuple #[.string ⟨#[]⟩,.bool false]
 | some l=>.tuple #[.string ⟨l.toArray⟩,.bool true]
theorem z8v (c:UInt8):c=39↔c.toNat=39:=by
 constructor
 ·rintro rfl;rfl
 ·intro h;exact UInt8.toNat_inj.1 h
theorem unquoted_any (s:ByteArray) (w:World) (hs:s.size≤140737488351232) :
  Calls Tryz.prog 176 #[.string s] w fun e w'=>e=.returned (unqV (unqL (s.data.toList.drop 1)))∧Below w.heap.size w w':=by
 obtain ⟨i0,hi,hz0,hz1,hz2⟩:=info_parts Tryz.info5
 obtain ⟨R,hR⟩:∃ R,R=unqL (s.data.toList.drop 1):=⟨_,rfl⟩
 rw [← hR]
 have hsz:s.data.toList.length=s.size:=rfl
 go_enter Tryz.func176,Tryz.ntmps176
 go_wp2
 refine z8d 0 (fun a' w'=>∃ (v:Value) (acc:List UInt8) (i:Nat) (u6 u7 u8 u9 u10 u11 u12 u13 u14 u15 u16 u17 u18 u19 u20 u21 u22 u23 u24 u25 u26 u27 u28 u29 u30 u31 u32 u33:Value),a'={ tmps:=#[.string s,undef,.string { data:=#[] },.bool false,v,.int .i64 (i:Int),u6,u7,u8,u9,u10,u11,u12,u13,u14,u15,u16,u17,u18,u19,u20,u21,u22,u23,u24,u25,u26,u27,u28,u29,u30,u31,u32,u33],defers:=[] } ∧
   1≤i∧(i=1∨i≤s.size)∧acc.length<i∧Own w' w.heap.size v acc∧Below w.heap.size w w'∧Hid (R=(unqL (s.data.toList.drop i)).map (acc++·)))
  (fun a' _=>s.size+2 - (intOf (a'.tmps.getD 5 undef)).toNat) rfl ?_ ?_
 ·go_wp2
  exact ⟨_,[],1,_,_,_,_,_,_,_,_,_,_,_,_,_,_,_,_,_,_,_,_,_,_,_,_,_,_,_,_,rfl,by omega,.inl rfl,by decide,World.ownsRow_nil _ _ _ _,Below.refl _ _,by rw [hR];cases unqL (s.data.toList.drop 1) <;> rfl⟩
 ·rintro a' W ⟨v,acc,i,u6,u7,u8,u9,u10,u11,u12,u13,u14,u15,u16,u17,u18,u19,u20,u21,u22,u23,u24,u25,u26,u27,u28,u29,u30,u31,u32,u33,rfl,h1,h2,hacc,ho,hB,hH⟩
  have sB:=hB.size
  by_cases hge:s.size≤i
  ·have hgi:(s.size:Int)≤(i:Int):=by omega
   have HR:Hid (R=none):=by
    show R=none
    rw [hH.out,List.drop_eq_nil_of_le (by omega)]
    rfl
   clear hH hR ho
   go_wp2
   simp only [Exit.jump]
   refine bodyPost_ret_by (v:=.tuple #[.string { data:=#[] },.bool false]) ?_ (by rfl) ⟨by rw [HR.out];rfl,hB⟩
   simp [results,Tryz.results176,go_sem]
  ·have hgi:¬ (s.size:Int)≤(i:Int):=by omega
   have hlt:i<s.size:=by omega
   have i0':(0:Int)≤(i:Int):=by omega
   have i1:(i:Int)<(s.size:Int):=by omega
   obtain ⟨c,hc0⟩:∃ c,c=s.data.toList[i]'(by omega):=⟨_,rfl⟩
   have hc:∀ h,s[i]'h=c:=fun h=>by rw [hc0];rfl
   have hdr:s.data.toList.drop i=c::s.data.toList.drop (i+1):=by rw [hc0];exact List.drop_eq_getElem_cons (by omega)
   have HH:=hH.out
   rw [hdr] at HH
   by_cases hq:c=39
   ·have hq':((c.toNat:Int)==39)=true:=by rw [(z8v c).1 hq];rfl
    by_cases hl:i+1=s.size
    ·have hl':((i:Int)+1==(s.size:Int))=true:=by simp;omega
     have HR:Hid (R=some acc):=by
      show R=some acc
      rw [HH,List.drop_eq_nil_of_le (by omega)]
      simp [unqL,hq]
     obtain ⟨ao,cap,rfl,hr,_⟩:=ho.rd
     have hcv:=z5v 96 9 5 Tryz.underlying96 Tryz.underlying5 Tryz.underlying9 hr
     clear hH hR HH hdr ho hr hc0
     go_wp2
     simp only [Exit.jump]
     refine bodyPost_ret_by (v:=.tuple #[.string ⟨acc.toArray⟩,.bool true]) ?_ (by rfl) ⟨by rw [HR.out];rfl,hB⟩
     simp [results,Tryz.results176,go_sem]
    ·have hl':((i:Int)+1==(s.size:Int))=false:=by simp;omega
     have hlt2:i+1<s.size:=by omega
     have j0:(0:Int)≤(i:Int)+1:=by omega
     have j1:(i:Int)+1<(s.size:Int):=by omega
     obtain ⟨d,hd0⟩:∃ d,d=s.data.toList[i+1]'(by omega):=⟨_,rfl⟩
     have hd:∀ h,s[i+1]'h=d:=fun h=>by rw [hd0];rfl
     have hdr2:s.data.toList.drop (i+1)=d::s.data.toList.drop (i+2):=by rw [hd0];exact List.drop_eq_getElem_cons (by omega)
     rw [hdr2] at HH
     by_cases hq2:d=39
     ·have hq2':((d.toNat:Int)==39)=true:=by rw [(z8v d).1 hq2];rfl
      have HR:Hid (R=(unqL (s.data.toList.drop (i+2))).map ((acc++[39])++·)):=by
       show R=_
       rw [HH]
       rw [hq,hq2,unq_two]
       cases unqL (s.data.toList.drop (i+2)) <;> simp
      clear hH hR HH hdr hdr2 hc0 hd0
      go_wp2_with (at_builtin;refine wpList_append_own _ rfl _ _ 96 rfl w.heap.size 5 i0 (.int .u8 0) 1 1 Tryz.underlying96 hi hz0 hz1 hz2 rfl (by decide) _ _ _ rfl (World.ownsRow.alloc ho _) ⟨W.heap.size,0,none⟩ 1 1 [.int .u8 39] rfl rfl (cell_one_new _ _ _) (z1x _ _) (by unfold maxLen;omega) (by omega) (by simp;omega) ?_)
      intro v1 w1 hown1 hgrow1 _
      have hB1:Below w.heap.size w w1:=((hB.alloc (by omega) _).grown hgrow1 (by simp;omega) (fun k hk=>(World.ownsRow.lt ho k hk).1))
      have hO:=z1y (b:=39) hown1
      clear hown1 hgrow1 ho hB
      go_wp2
      go_step3
      refine ⟨rfl,⟨_,acc++[39],i+2,_,_,_,_,_,_,_,_,_,_,_,_,_,_,_,_,_,_,_,_,_,_,_,_,_,_,_,_,by rw [show ((i:Int)+1+1)=((i+2:Nat):Int) by omega],by omega,.inr (by omega),by simp;omega,hO,hB1,?_⟩,?_⟩
      ·exact HR
      ·simp [intOf];omega
     ·have hq2':((d.toNat:Int)==39)=false:=by
       have:=mt (z8v d).2 hq2
       rw [beq_eq_false_iff_ne];omega
      have HR:Hid (R=none):=by
       show R=none
       rw [HH]
       simp [unqL,hq,hq2]
      clear hH hR HH hdr hdr2 hc0 hd0 ho
      go_wp2
      simp only [Exit.jump]
      refine bodyPost_ret_by (v:=.tuple #[.string { data:=#[] },.bool false]) ?_ (by rfl) ⟨by rw [HR.out];rfl,hB⟩
      simp [results,Tryz.results176,go_sem]
   ·have hq':((c.toNat:Int)==39)=false:=by
     have:=mt (z8v c).2 hq
     rw [beq_eq_false_iff_ne];omega
    have HR:Hid (R=(unqL (s.data.toList.drop (i+1))).map ((acc++[c])++·)):=by
     show R=_
     rw [HH]
     rw [unq_other _ _ hq]
     cases unqL (s.data.toList.drop (i+1)) <;> simp
    clear hH hR HH hdr hc0
    go_wp2_with (at_builtin;refine wpList_append_own _ rfl _ _ 96 rfl w.heap.size 5 i0 (.int .u8 0) 1 1 Tryz.underlying96 hi hz0 hz1 hz2 rfl (by decide) _ _ _ rfl (World.ownsRow.alloc ho _) ⟨W.heap.size,0,none⟩ 1 1 [.int .u8 (c.toNat:Int)] rfl rfl (cell_one_new _ _ _) (z1x _ _) (by unfold maxLen;omega) (by omega) (by simp;omega) ?_)
    intro v1 w1 hown1 hgrow1 _
    have hB1:Below w.heap.size w w1:=((hB.alloc (by omega) _).grown hgrow1 (by simp;omega) (fun k hk=>(World.ownsRow.lt ho k hk).1))
    have hO:=z1y hown1
    clear hown1 hgrow1 ho hB
    go_wp2
    go_step3
    refine ⟨rfl,⟨_,acc++[c],i+1,_,_,_,_,_,_,_,_,_,_,_,_,_,_,_,_,_,_,_,_,_,_,_,_,_,_,_,_,by rw [show ((i:Int)+1)=((i+1:Nat):Int) by omega],by omega,.inr (by omega),by simp;omega,hO,hB1,HR⟩,?_⟩
    simp [intOf];omega
theorem dbl_take (l:List UInt8) (i:Nat) (h:i<l.length):dbl (l.take (i+1))=dbl (l.take i)++(if l[i]=39 then [39,39] else [l[i]]):=by
 unfold dbl
 rw [← List.take_append_getElem h]
 simp only [List.flatMap_append,List.flatMap_cons,List.flatMap_nil,List.append_nil]
theorem dbl_len (l:List UInt8):(dbl l).length≤2*l.length:=by
 induction l with
 | nil=>simp [dbl]
 | cons c l ih =>
  have e:dbl (c::l)=(if c=39 then [39,39] else [c])++dbl l:=by simp [dbl]
  rw [e,List.length_append,List.length_cons]
  split <;> simp <;> omega
theorem quoted_any (s:ByteArray) (w:World) (hs:s.size≤1000) :
  Calls Tryz.prog 25 #[.string s] w fun e w'=>e=.returned (.string ⟨(quoL s.data.toList).toArray⟩)∧Below w.heap.size w w':=by
 obtain ⟨i0,hi,hz0,hz1,hz2⟩:=info_parts Tryz.info5
 obtain ⟨R,hR⟩:∃ R,R=quoL s.data.toList:=⟨_,rfl⟩
 rw [← hR]
 have hsz:s.data.toList.length=s.size:=rfl
 go_enter Tryz.func25,Tryz.ntmps25
 go_wp2
 refine z8d 0 (fun a' w'=>∃ (v:Value) (i:Nat) (u5 u6 u7 u8 u9 u10 u11 u12 u13 u14 u15 u16 u17 u18 u19 u20 u21 u22 u23 u24 u25 u26 u27 u28 u29 u30 u31 u32 u33:Value),a'={ tmps:=#[.string s,undef,.string { data:=#[] },v,.int .i64 (i:Int),u5,u6,u7,u8,u9,u10,u11,u12,u13,u14,u15,u16,u17,u18,u19,u20,u21,u22,u23,u24,u25,u26,u27,u28,u29,u30,u31,u32,u33],defers:=[] } ∧
   i≤s.size∧Own w' w.heap.size v (39::dbl (s.data.toList.take i))∧Below w.heap.size w w')
  (fun a' _=>s.size+2 - (intOf (a'.tmps.getD 4 undef)).toNat) rfl ?_ ?_
 ·go_wp2_with (at_make;refine wpList_make_own _ rfl _ _ 96 rfl w.heap.size 5 i0 (.int .u8 0) 1 Tryz.underlying96 hi hz0 hz1 _ _ _ (s.size+2) rfl rfl (by omega) (by rw [hz2];omega) (by unfold maxLen;omega) (Nat.le_refl _) ?_)
  intro w1 hown1 hgrow1
  have B1:Below w.heap.size w w1:=(Below.refl _ _).grown hgrow1 (Nat.le_refl _) (fun k hk=>by cases hk)
  have s1:=B1.size
  clear hgrow1
  go_wp2_with (at_builtin;refine wpList_append_own _ rfl _ _ 96 rfl w.heap.size 5 i0 (.int .u8 0) 1 1 Tryz.underlying96 hi hz0 hz1 hz2 rfl (by decide) _ _ _ rfl (World.ownsRow.alloc hown1 _) ⟨w1.heap.size,0,none⟩ 1 1 [.int .u8 39] rfl rfl (cell_one_new _ _ _) (z1x _ _) (by unfold maxLen;omega) (by omega) (by simp;omega) ?_)
  intro v2 w2 hown2 hgrow2 _
  have B2:Below w.heap.size w w2:=((B1.alloc (by omega) _).grown hgrow2 (by simp;omega) (fun k hk=>(World.ownsRow.lt hown1 k hk).1))
  clear hown1 hgrow2
  go_wp2
  exact ⟨_,0,_,_,_,_,_,_,_,_,_,_,_,_,_,_,_,_,_,_,_,_,_,_,_,_,_,_,_,_,_,rfl,by omega,hown2,B2⟩
 ·rintro a' W ⟨v,i,u5,u6,u7,u8,u9,u10,u11,u12,u13,u14,u15,u16,u17,u18,u19,u20,u21,u22,u23,u24,u25,u26,u27,u28,u29,u30,u31,u32,u33,rfl,h1,ho,hB⟩
  have sB:=hB.size
  have hdl:=dbl_len (s.data.toList.take i)
  have htl:(s.data.toList.take i).length=i:=by simp;omega
  by_cases hge:i=s.size
  ·have hgi:((i:Int)==(s.size:Int))=true:=by simp;omega
   have HR:Hid (R=39::dbl (s.data.toList.take i)++[39]):=by
    show R=_
    rw [hR,List.take_of_length_le (by omega)]
    rfl
   obtain ⟨D,hD⟩:∃ D,D=39::dbl (s.data.toList.take i):=⟨_,rfl⟩
   have hDl:D.length≤2001:=by rw [hD];simp;omega
   rw [← hD] at ho HR
   clear hR hge hdl hD
   go_wp2_with (at_builtin;refine wpList_append_own _ rfl _ _ 96 rfl w.heap.size 5 i0 (.int .u8 0) 1 1 Tryz.underlying96 hi hz0 hz1 hz2 rfl (by decide) _ _ _ rfl (World.ownsRow.alloc ho _) ⟨W.heap.size,0,none⟩ 1 1 [.int .u8 39] rfl rfl (cell_one_new _ _ _) (z1x _ _) (by unfold maxLen;omega) (by omega) (by simp;omega) ?_)
   intro v1 w1 hown1 hgrow1 _
   have hB1:Below w.heap.size w w1:=((hB.alloc (by omega) _).grown hgrow1 (by simp;omega) (fun k hk=>(World.ownsRow.lt ho k hk).1))
   have hO:=z1y (b:=39) hown1
   obtain ⟨E,hE⟩:∃ E,E=D++[39]:=⟨_,rfl⟩
   rw [← hE] at hO HR
   clear hown1 hgrow1 ho hB hE
   obtain ⟨ao,cap,rfl,hr,_⟩:=hO.rd
   have hcv:=z5v 96 9 5 Tryz.underlying96 Tryz.underlying5 Tryz.underlying9 hr
   clear hr hO
   go_wp2
   try simp only [Exit.jump]
   refine bodyPost_ret_by (v:=.string ⟨E.toArray⟩) ?_ (by rfl) ⟨by rw [HR.out],hB1⟩
   simp [results,Tryz.results25,go_sem]
  ·have hgi:((i:Int)==(s.size:Int))=false:=by simp;omega
   have hlt:i<s.size:=by omega
   have i0':(0:Int)≤(i:Int):=by omega
   have i1:(i:Int)<(s.size:Int):=by omega
   obtain ⟨c,hc0⟩:∃ c,c=s.data.toList[i]'(by omega):=⟨_,rfl⟩
   have hc:∀ h,s[i]'h=c:=fun h=>by rw [hc0];rfl
   have hdt:=dbl_take s.data.toList i (by omega)
   rw [← hc0] at hdt
   obtain ⟨D,hD⟩:∃ D,D=39::dbl (s.data.toList.take i):=⟨_,rfl⟩
   have hDl:D.length≤2001:=by rw [hD];simp;omega
   by_cases hq:c=39
   ·have hq':((c.toNat:Int)==39)=true:=by rw [(z8v c).1 hq];rfl
    rw [if_pos hq] at hdt
    have HR:Hid (39::dbl (s.data.toList.take (i+1))=D++[39]++[39]):=by
     show _=_
     rw [hdt,hD];simp
    rw [← hD] at ho
    clear hR hge hdl hD hdt hc0
    go_wp2_with (at_builtin;refine wpList_append_own _ rfl _ _ 96 rfl w.heap.size 5 i0 (.int .u8 0) 1 1 Tryz.underlying96 hi hz0 hz1 hz2 rfl (by decide) _ _ _ rfl (World.ownsRow.alloc ho _) ⟨W.heap.size,0,none⟩ 1 1 [.int .u8 39] rfl rfl (cell_one_new _ _ _) (z1x _ _) (by unfold maxLen;omega) (by omega) (by simp;omega) ?_)
    intro v1 w1 hown1 hgrow1 _
    have hB1:Below w.heap.size w w1:=((hB.alloc (by omega) _).grown hgrow1 (by simp;omega) (fun k hk=>(World.ownsRow.lt ho k hk).1))
    have hO:=z1y (b:=39) hown1
    have s1:=hB1.size
    have hl1:(D++[39]).length≤2002:=by simp;omega
    clear hown1 hgrow1 ho hB
    go_wp2_with (at_builtin;refine wpList_append_own _ rfl _ _ 96 rfl w.heap.size 5 i0 (.int .u8 0) 1 1 Tryz.underlying96 hi hz0 hz1 hz2 rfl (by decide) _ _ _ rfl (World.ownsRow.alloc hO _) ⟨w1.heap.size,0,none⟩ 1 1 [.int .u8 39] rfl rfl (cell_one_new _ _ _) (z1x _ _) (by unfold maxLen;omega) (by omega) (by simp;omega) ?_)
    intro v2 w2 hown2 hgrow2 _
    have hB2:Below w.heap.size w w2:=((hB1.alloc (by omega) _).grown hgrow2 (by simp;omega) (fun k hk=>(World.ownsRow.lt hO k hk).1))
    have hO2:=z1y (b:=39) hown2
    clear hown2 hgrow2 hO hB1
    go_wp2
    go_step3
    refine ⟨rfl,⟨_,i+1,_,_,_,_,_,_,_,_,_,_,_,_,_,_,_,_,_,_,_,_,_,_,_,_,_,_,_,_,_,by rw [show ((i:Int)+1)=((i+1:Nat):Int) by omega],by omega,by rw [HR.out];exact hO2,hB2⟩,?_⟩
    simp [intOf];omega
   ·have hq':((c.toNat:Int)==39)=false:=by
     have:=mt (z8v c).2 hq
     rw [beq_eq_false_iff_ne];omega
    rw [if_neg hq] at hdt
    have HR:Hid (39::dbl (s.data.toList.take (i+1))=D++[c]):=by
     show _=_
     rw [hdt,hD];simp
    rw [← hD] at ho
    clear hR hge hdl hD hdt hc0
    go_wp2_with (at_builtin;refine wpList_append_own _ rfl _ _ 96 rfl w.heap.size 5 i0 (.int .u8 0) 1 1 Tryz.underlying96 hi hz0 hz1 hz2 rfl (by decide) _ _ _ rfl (World.ownsRow.alloc ho _) ⟨W.heap.size,0,none⟩ 1 1 [.int .u8 (c.toNat:Int)] rfl rfl (cell_one_new _ _ _) (z1x _ _) (by unfold maxLen;omega) (by omega) (by simp;omega) ?_)
    intro v1 w1 hown1 hgrow1 _
    have hB1:Below w.heap.size w w1:=((hB.alloc (by omega) _).grown hgrow1 (by simp;omega) (fun k hk=>(World.ownsRow.lt ho k hk).1))
    have hO:=z1y hown1
    clear hown1 hgrow1 ho hB
    go_wp2
    go_step3
    refine ⟨rfl,⟨_,i+1,_,_,_,_,_,_,_,_,_,_,_,_,_,_,_,_,_,_,_,_,_,_,_,_,_,_,_,_,_,by rw [show ((i:Int)+1)=((i+1:Nat):Int) by omega],by omega,by rw [HR.out];exact hO,hB1⟩,?_⟩
    simp [intOf];omega
end Go.Proofs.YtljkonkfeiojnaaGreatDoor
