/-
  Places of columns: each once.
  Key and Uniques that may be.
  The contract of longstoplaw06.Own: the program's nodes out of the document's.
  The contracts of slices.Contains at nodes and of expr.Columns.
  The contract of expr.Parse, of a text that the lexer splits.
  The tables of the program that SchemaAgain's row lists.
  What datum.Parse tells of a text that is no literal; of the known tokens.
  The Check that longstoplaw08.table knows: a > 0.
  SchemaAgain: what the row's form asks of the program's own text.
-/
import Derived.Test.YtljkonkfeiojnaaGreatDoorMJJCols
import Derived.Scope
import Derived.Deep.RegionHeld3
import Derived.Deep.AppendLies
import Derived.Test.YtljkonkfeiojnaaGreatDoorMBVKeyB
set_option maxHeartbeats 4000000
set_option maxRecDepth 20000
namespace Go.Proofs.YtljkonkfeiojnaaGreatDoor
open Go.RowKit Go.Shelf
attribute [local go_sem] z0f z0b z0c z0e z0m z0k z0h z0d z0g
def cntP (l:List Int) (n:Nat):Nat:=((List.range n).filter fun p:Nat=>l.contains (p:Int)).length
theorem cntP_succ (l:List Int) (n:Nat):cntP l (n+1)=cntP l n+if l.contains (n:Int) then 1 else 0:=by
 unfold cntP
 rw [List.range_succ,List.filter_append,List.length_append]
 congr 1
 cases h:l.contains (n:Int) <;> simp only [List.filter_cons,List.filter_nil,h] <;> rfl
def plc (l:List Int) (n:Nat):Bool:=decide (cntP l n=l.length)
theorem places_any (ao:Option Addr) (cap:Nat) (l:List Int) (n:Nat) (w:World) (hc:Iw w ao l) (hl:l.length≤140737488351232) (hn:n≤140737488351232) :
  Calls Tryz.prog 53 #[.slice ao l.length cap,.int .i64 (n:Int)] w fun e w'=>e=.returned (.bool (plc l n))∧w=w':=by
 unfold plc
 obtain ⟨m,hm⟩:∃ m,l.length=m:=⟨_,rfl⟩
 have HM:Hid (l.length=m):=hm
 have HC:Hid (Iw w ao l):=hc
 rw [hm] at hl ⊢
 clear hm hc
 go_enter Tryz.func53,Tryz.ntmps53
 go_wp2
 refine wp_scope_straight ?_
 go_wp2
 apply wp_label
 go_wp2
 go_loopw [5,10] (fun f r wr=>∃ k c:Nat,f=.int .i64 (c:Int)∧r=.int .i64 (k:Int)∧k≤n∧c≤k∧wr=w∧Hid (c=cntP l k)) (fun _ r _=>n - (intOf r).toNat)
 case atStart=>exact ⟨0,0,rfl,rfl,Nat.zero_le _,Nat.le_refl _,rfl,rfl⟩
 case round =>
  obtain ⟨k,c,rfl,rfl,hk,hck,rfl,hH⟩:=hrel
  by_cases hlt:k<n
  ·have hlt':(k:Int)<(n:Int):=by omega
   have hs:=cntP_succ l k
   have HT:Hid (l.contains (k:Int)=true→c+1=cntP l (k+1)):=fun h=>by rw [hs,h,← hH.out];rfl
   have HF:Hid (l.contains (k:Int)=false→c=cntP l (k+1)):=fun h=>by rw [hs,h,← hH.out];rfl
   clear hs
   go_wp2
   go_loopw [5,15] (fun f r wv=>∃ j:Nat,f=.int .i64 (c:Int)∧r=.int .i64 (j:Int)∧j≤m∧wv=wr∧Hid ((l.take j).contains (k:Int)=false)) (fun _ r _=>m - (intOf r).toNat)
   case atStart=>exact ⟨0,rfl,rfl,Nat.zero_le _,rfl,by show _=_;simp⟩
   case round =>
    obtain ⟨j,rfl,rfl,hj,rfl,hG⟩:=hrel
    by_cases hlj:j<m
    ·have hlj':(j:Int)<(m:Int):=by omega
     have j0:(0:Int)≤(j:Int):=by omega
     have hjl:j<l.length:=by rw [HM.out];exact hlj
     obtain ⟨b,off,rfl,hc⟩:=HC.out (by omega)
     have c0:=hc j hjl
     clear hc
     have hts:(k:Int)≠l[j]→(l.take (j+1)).contains (k:Int)=false:=by
      intro h
      have:=hG.out
      rw [List.take_succ_eq_append_getElem hjl]
      simp only [List.contains_eq_any_beq,List.any_append] at *
      rw [this]
      simpa using h
     have hsub:(k:Int)=l[j]→l.contains (k:Int)=true:=fun h=>by rw [h];simp
     generalize l[j]=x at *
     by_cases hb:x=(k:Int)
     ·have HS:Hid (c+1=cntP l (k+1)):=HT.out (hsub hb.symm)
      have hb':(x==(k:Int))=true:=by simpa using hb
      have e1:IntKind.i64.wrap ((c:Int)+1)=(c:Int)+1:=by rw [IntKind.wrap_i64];omega
      clear hts hsub hb
      go_wp2
      go_roundw
      case rel=>exact ⟨k+1,c+1,by first|rfl|(go_num),by go_num,by omega,by omega,by first|rfl|trivial,HS⟩
      case measure=>simp [intOf];omega
     ·have HS:Hid ((l.take (j+1)).contains (k:Int)=false):=hts (fun h=>hb h.symm)
      have hb':(x==(k:Int))=false:=by simpa using hb
      clear hts hsub hb
      go_wp2
      go_roundw
      case rel=>exact ⟨j+1,rfl,by go_num,by omega,by first|rfl|trivial,HS⟩
      case measure=>simp [intOf];omega
    ·have hlj':¬ (j:Int)<(m:Int):=by omega
     have HS:Hid (c=cntP l (k+1)):=HF.out (by have:=hG.out;rwa [List.take_of_length_le (by rw [HM.out];omega)] at this)
     go_wp2
     go_roundw
     case rel=>exact ⟨k+1,c,by first|rfl|(go_num),by go_num,by omega,by omega,by first|rfl|trivial,HS⟩
     case measure=>simp [intOf];omega
  ·have hlt':¬ (k:Int)<(n:Int):=by omega
   obtain rfl:k=n:=by omega
   have HS:Hid (c=cntP l k):=hH
   go_wp2
   go_ret
   exact ⟨z5u (by rw [← HS.out];simp;try omega),by first|rfl|trivial⟩
def z9k (key:List Int) (us:List (List Int)) (n:Nat):Prop:=us.length≤4∧plc key n=true∧∀ i (h:i<us.length),us[i]≠[]∧plc us[i] n=true
instance (key:List Int) (us:List (List Int)) (n:Nat):Decidable (z9k key us n):=by unfold z9k;infer_instance
theorem keysR_any (N:ByteArray) (co ko uo xo:Option Addr) (cn cc kc uc xn xc:Nat) (key:List Int) (us:List (List Int)) (w:World) (hk:Iw w ko key) (hu:Uw w uo us) (hkl:key.length≤140737488351232) (hul:us.length≤140737488351232) (hcn:cn≤140737488351232) (hus:∀ u∈us,u.length≤140737488351232) :
  Calls Tryz.prog 31 #[.agg #[.string N,.slice co cn cc,.slice ko key.length kc,.slice uo us.length uc,.slice xo xn xc]] w fun e w'=>e=.returned (.bool (decide (z9k key us cn)))∧Below w.heap.size w w':=by
 obtain ⟨R,hR⟩:∃ R,R=decide (z9k key us cn):=⟨_,rfl⟩
 rw [← hR]
 have HT:Hid (z9k key us cn→R=true):=fun h=>by rw [hR];exact decide_eq_true h
 have HF:Hid (¬ z9k key us cn→R=false):=fun h=>by rw [hR];exact decide_eq_false h
 have PK:∀ W,Below w.heap.size w W→_:=fun W h=>places_any ko kc key cn W (hk.later h) hkl hcn
 have PU:Hid (∀ i (h:i<us.length) uo' uc' W,Iw W uo' us[i]→Calls Tryz.prog 53 #[.slice uo' us[i].length uc',.int .i64 (cn:Int)] W fun e w'=>e=.returned (.bool (plc us[i] cn))∧W=w'):=fun i h uo' uc' W hI=>places_any uo' uc' us[i] cn W hI (hus _ (List.getElem_mem h)) hcn
 obtain ⟨un,hun⟩:∃ un,us.length=un:=⟨_,rfl⟩
 have HU:Hid (us.length=un):=hun
 have HW:Hid (Uw w uo us):=hu
 have HP:Hid (plc key cn=false→R=false):=fun h=>HF.out (fun c=>by have:=c.2.1;rw [h] at this;cases this)
 rw [hun] at hul ⊢
 generalize hkn:key.length=kn at *
 clear hun hu hR hus hk hkn
 have b01:Below w.heap.size w (w.alloc (.cells #[.string N,.slice co cn cc,.slice ko kn kc,.slice uo un uc,.slice xo xn xc] 33)):=(Below.refl _ _).alloc (Nat.le_refl _) _
 have A1:Cbox (w.alloc (.cells #[.string N,.slice co cn cc,.slice ko kn kc,.slice uo un uc,.slice xo xn xc] 33)) w.heap.size #[.string N,.slice co cn cc,.slice ko kn kc,.slice uo un uc,.slice xo xn xc] 33:=Cbox.new w _ _
 have PK1:=PK _ b01
 clear PK
 by_cases h4:4<un
 ·have HS:Hid (R=false):=HF.out (fun h=>by have:=h.1;rw [HU.out] at this;omega)
  have h4':(4:Int)<(un:Int):=by omega
  go_enter Tryz.func31,Tryz.ntmps31
  go_wp2
  go_ret
  exact ⟨by rw [HS.out];rfl,b01⟩
 have h4':¬ (4:Int)<(un:Int):=by omega
 cases hpk:plc key cn with
 | false =>
  have HS:Hid (R=false):=HP.out hpk
  rw [hpk] at PK1
  clear hpk
  go_enter Tryz.func31,Tryz.ntmps31
  go_wp2_with (go_at_call 53;refine PK1.mono ?_;rintro e w' ⟨rfl,rfl⟩)
  go_ret
  exact ⟨by rw [HS.out];rfl,b01⟩
 | true =>
  have HK:Hid (plc key cn=true):=hpk
  rw [hpk] at PK1
  clear hpk HP
  go_enter Tryz.func31,Tryz.ntmps31
  go_upto_region 1 with fail
  generalize w.alloc (.cells #[.string N,.slice co cn cc,.slice ko kn kc,.slice uo un uc,.slice xo xn xc] 33)=w1 at *
  have z1:=A1.at 1
  have z2:=A1.at 2
  have z3:=A1.at 3
  go_wp2_with (go_at_call 53;refine PK1.mono ?_;rintro e w' ⟨rfl,rfl⟩)
  go_loopw [21] (fun r wr=>∃ k:Nat,r=.int .i64 (k:Int)∧k≤un∧wr=w1∧Hid (∀ i (h:i<us.length),i<k→us[i]≠[]∧plc us[i] cn=true)) (fun r _=>un - (intOf r).toNat)
  case atStart=>exact ⟨0,rfl,Nat.zero_le _,rfl,fun i h h2=>by omega⟩
  case round =>
   obtain ⟨k,rfl,hk,rfl,hH⟩:=hrel
   by_cases hlt:k<un
   ·have hlt':(k:Int)<(un:Int):=by omega
    have k0:(0:Int)≤(k:Int):=by omega
    have hkl2:k<us.length:=by rw [HU.out];exact hlt
    obtain ⟨b,off,rfl,hcc⟩:=(HW.out.later b01) (by omega)
    obtain ⟨vo,vc,c0,hI⟩:=hcc k hkl2
    clear hcc
    have P1:=PU.out k hkl2 vo vc _ hI
    have hgo:us[k]≠[]→plc us[k] cn=true→∀ i (h:i<us.length),i<k+1→us[i]≠[]∧plc us[i] cn=true:=fun a1 a2 i h h2=>by
     by_cases e:i=k
     ·subst e;exact ⟨a1,a2⟩
     ·exact hH.out i h (by omega)
    have hb1:us[k]=[]→¬ z9k key us cn:=fun a1 h=>(h.2.2 k hkl2).1 a1
    have hb2:plc us[k] cn=false→¬ z9k key us cn:=fun a1 h=>by have:=(h.2.2 k hkl2).2;rw [a1] at this;cases this
    have he:us[k]=[]↔us[k].length=0:=by simp
    clear hI
    generalize plc us[k] cn=q at *
    by_cases h0:us[k].length=0
    ·have HS:Hid (R=false):=HF.out (hb1 (he.2 h0))
     rw [h0] at c0
     clear hgo hb1 hb2 he P1 h0
     go_wp2
     go_ret
     exact ⟨by rw [HS.out];rfl,b01⟩
    ·have hne:us[k]≠[]:=fun e=>h0 (he.1 e)
     generalize us[k].length=s at *
     have h0':((s:Int)==0)=false:=by simp;omega
     cases q with
     | false =>
      have HS:Hid (R=false):=HF.out (hb2 rfl)
      clear hgo hb1 hb2 he h0 hne
      go_wp2_with (go_at_call 53;refine P1.mono ?_;rintro e w' ⟨rfl,rfl⟩)
      go_ret
      exact ⟨by rw [HS.out];rfl,b01⟩
     | true =>
      have HS:Hid (∀ i (h:i<us.length),i<k+1→us[i]≠[]∧plc us[i] cn=true):=hgo hne rfl
      clear hgo hb1 hb2 he h0 hne
      go_wp2_with (go_at_call 53;refine P1.mono ?_;rintro e w' ⟨rfl,rfl⟩)
      go_roundw
      case rel=>exact ⟨k+1,by go_num,by omega,by first|rfl|trivial,HS⟩
      case measure=>simp [intOf];omega
   ·have hlt':¬ (k:Int)<(un:Int):=by omega
    have HS:Hid (R=true):=HT.out ⟨by rw [HU.out];omega,HK.out,fun i h=>hH.out i h (by rw [HU.out] at h;omega)⟩
    go_wp2
    go_ret
    exact ⟨by rw [HS.out];rfl,b01⟩
theorem own6_any (ao:Option Addr) (cap:Nat) (xs:List Nd) (w:World) (hv:Nw w ao xs) (hn:xs.length*88≤140737488351232) :
    Calls Tryz.prog 14 #[.slice ao xs.length cap] w fun e w'=>(∃ ao' cap',e=.returned (.slice ao' xs.length cap')∧Nw w' ao' xs∧z1n w' w.heap.size (.slice ao' xs.length cap') xs)∧Below w.heap.size w w':=by
  obtain ⟨i0,hi,hz0,hz1,hz2⟩:=info_parts infoNd
  obtain ⟨n,hnn⟩:∃ n,xs.length=n:=⟨_,rfl⟩
  rw [hnn] at hn ⊢
  have HN:Hid (xs.length=n):=hnn
  clear hnn
  go_enter Tryz.func14,Tryz.ntmps14
  go_wp2
  go_loopw [3,4] (fun r3 r4 wr=>∃ k:Nat,r4=.int .i64 (k:Int)∧k≤n∧z1n wr w.heap.size r3 (xs.take k)∧Below w.heap.size w wr) (fun _ r _=>n - (intOf r).toNat)
  case atStart=>exact ⟨0,rfl,Nat.zero_le _,World.ownsRow_nil _ _ _ _,Below.refl _ _⟩
  case round =>
    obtain ⟨k,rfl,hk,ho,hB⟩:=hrel
    have sB:=hB.size
    by_cases hlt:k<n
    · have hlt':(k:Int)<(n:Int):=by omega
      have k0:(0:Int)≤(k:Int):=by omega
      have hkl:k<xs.length:=by rw [HN.out];exact hlt
      obtain ⟨b,off,rfl,hc⟩:=hv (by omega)
      obtain ⟨c0,c1,c2,c3,c4,c5,c6,c7⟩:=((hc k (by omega)).later hB)
      have hg:=(hc k (by omega)).lt
      have hg':b<wr.heap.size:=by omega
      have htk:xs.take (k+1)=xs.take k++[xs[k]]:=List.take_succ_eq_append_getElem hkl
      have hlk:(xs.take k).length=k:=by rw [List.length_take];omega
      obtain ⟨x,he⟩:∃ x:Nd,x=xs[k]:=⟨_,rfl⟩
      rw [← he] at c0 c1 c2 c3 c4 c5 c6 c7 htk
      have HT:Hid (xs.take (k+1)=xs.take k++[x]):=htk
      have HL:Hid ((xs.take k).length=k):=hlk
      have ho':wr.ownsRow w.heap.size 74 8 u3 k (z4p (xs.take k)):=by rw [← hlk];rw [hlk];have:=ho;unfold z1n at this;rw [hlk] at this;exact this
      obtain ⟨xo,xt,xn,xv,xa⟩:=x
      clear hc he htk hlk ho
      go_wp2_with fail
      go_region_held3 (fun W=>W.cell? ⟨b,off+k*8,none⟩=some (.int .i64 xo)∧W.cell? ⟨b,off+k*8+1,none⟩=some (.string ⟨xt.toArray⟩)∧W.cell? ⟨b,off+k*8+2,none⟩=some (.string ⟨xn.toArray⟩)∧W.cell? ⟨b,off+k*8+3,none⟩=some (.int .i64 xv.k)∧W.cell? ⟨b,off+k*8+4,none⟩=some (.int .i64 xv.n)∧W.cell? ⟨b,off+k*8+5,none⟩=some (.int .i64 xv.m)∧W.cell? ⟨b,off+k*8+6,none⟩=some (.string ⟨xv.b.toArray⟩)∧W.cell? ⟨b,off+k*8+7,none⟩=some (.int .i64 xa))
        (first
          | go_keep
          | (go_split_ands
             refine ⟨?_,?_,?_,?_,?_,?_,?_,?_⟩
             · (rw [hgrow.cell_far _ (by simp;omega) (by intro h;have:=(World.ownsRow.lt ho' _ h.symm).1;simp at this;omega)];assumption)
             · (rw [hgrow.cell_far _ (by simp;omega) (by intro h;have:=(World.ownsRow.lt ho' _ h.symm).1;simp at this;omega)];assumption)
             · (rw [hgrow.cell_far _ (by simp;omega) (by intro h;have:=(World.ownsRow.lt ho' _ h.symm).1;simp at this;omega)];assumption)
             · (rw [hgrow.cell_far _ (by simp;omega) (by intro h;have:=(World.ownsRow.lt ho' _ h.symm).1;simp at this;omega)];assumption)
             · (rw [hgrow.cell_far _ (by simp;omega) (by intro h;have:=(World.ownsRow.lt ho' _ h.symm).1;simp at this;omega)];assumption)
             · (rw [hgrow.cell_far _ (by simp;omega) (by intro h;have:=(World.ownsRow.lt ho' _ h.symm).1;simp at this;omega)];assumption)
             · (rw [hgrow.cell_far _ (by simp;omega) (by intro h;have:=(World.ownsRow.lt ho' _ h.symm).1;simp at this;omega)];assumption)
             · (rw [hgrow.cell_far _ (by simp;omega) (by intro h;have:=(World.ownsRow.lt ho' _ h.symm).1;simp at this;omega)];assumption)))
        ((refine step_append_lies _ (by rfl) _ _ _ (by rfl) w.heap.size 74 i0 _ 8 88 Tryz.underlying31 hi hz0 hz1 hz2 rfl (by omega) _ k (z4p (xs.take k)) (by rfl) ((World.ownsRow.alloc ho' _).drew)
            ⟨wr.heap.size,0,none⟩ 1 1 (ncs ⟨xo,xt,xn,xv,xa⟩).toList (by rfl) (by rfl) (World.news_of_block (cs:=ncs ⟨xo,xt,xn,xv,xa⟩) (t:=74) (fr:=(0,0)) (heap_alloc_new wr _)) (one_nd ⟨xo,xt,xn,xv,xa⟩)
            (by omega) (by unfold maxLen;omega) (by omega) (by simp;omega) (wr.heap.size+1) (by simp) ?_;intro gg cap w2 hown2 hgrow hat hlt1))
      have hb2:Below w.heap.size w w2:=((hB.alloc sB _).drew.grown hgrow (by simp;omega) (fun k hk=>(World.ownsRow.lt ho' k hk).1))
      have ho2:=z1n.push (x:=⟨xo,xt,xn,xv,xa⟩) hown2 (by rw [HL.out])
      rw [← HT.out] at ho2
      clear hown2 hgrow ho' hat
      go_wp2
      exact ⟨⟨k+1,by rw [z7n],by omega,ho2,hb2⟩,by simp [intOf];omega⟩
    · have hlt':¬ (k:Int)<(n:Int):=by omega
      have hkn:k=n:=by omega
      rw [List.take_of_length_le (by rw [HN.out];omega)] at ho
      obtain ⟨ao',cap',hve,hw⟩:=ho.lies
      rw [HN.out] at hve
      subst hve
      go_wp2
      go_ret
      first|exact ⟨⟨ao',cap',rfl,hw,ho⟩,hB⟩|exact ⟨⟨ao',⟨cap',rfl,ho⟩,hw⟩,hB⟩|exact ⟨⟨ao',hw,cap',rfl,ho⟩,hB⟩
def memN (l:List Nd) (v:Nd):Bool:=l.any fun x=>sameN v x
theorem idx_any (ao:Option Addr) (cap:Nat) (l:List Nd) (v:Nd) (w:World) (hv:Nw w ao l) (hn:l.length≤140737488351232) :
  Calls Tryz.prog 105 #[.slice ao l.length cap,ndv v] w fun e w'=>(∃ i:Int,e=.returned (.int .i64 i)∧decide (0≤i)=memN l v)∧Below w.heap.size w w':=by
 obtain ⟨R,hR⟩:∃ R,R=memN l v:=⟨_,rfl⟩
 rw [← hR]
 have HR:Hid (R=memN (l.drop 0) v):=hR
 clear hR
 obtain ⟨n,hnn⟩:∃ n,l.length=n:=⟨_,rfl⟩
 rw [hnn] at hn ⊢
 have HN:Hid (l.length=n):=hnn
 clear hnn
 obtain ⟨vo,vt,vn,vv',va'⟩:=v
 go_enter Tryz.func105,Tryz.ntmps105
 go_wp2
 go_loopw [8] (fun r wr=>∃ k:Nat,r=.int .i64 (k:Int)∧k≤n∧Cbox wr w.heap.size (ncs ⟨vo,vt,vn,vv',va'⟩) 74∧Below w.heap.size w wr∧Hid (R=memN (l.drop k) ⟨vo,vt,vn,vv',va'⟩)) (fun r _=>n - (intOf r).toNat)
 case atStart=>exact ⟨0,rfl,Nat.zero_le _,Cbox.new w _ _,(Below.refl _ w).alloc (Nat.le_refl _) _,HR⟩
 case round =>
  obtain ⟨k,rfl,hk,hc,hb,hH⟩:=hrel
  have sB:=hb.size
  by_cases hlt:k<n
  ·have hlt':(k:Int)<(n:Int):=by omega
   have k0:(0:Int)≤(k:Int):=by omega
   have hkl:k<l.length:=by rw [HN.out];exact hlt
   obtain ⟨b,off,rfl,hcl⟩:=hv (by omega)
   obtain ⟨c0,c1,c2,c3,c4,c5,c6,c7⟩:=((hcl k hkl).later hb)
   have hg:=(hcl k hkl).lt
   have hg':b<wr.heap.size:=by omega
   have hdr:l.drop k=l[k]::l.drop (k+1):=List.drop_eq_getElem_cons hkl
   obtain ⟨x,he⟩:∃ x:Nd,x=l[k]:=⟨_,rfl⟩
   rw [← he] at c0 c1 c2 c3 c4 c5 c6 c7 hdr
   have hst:R=(sameN ⟨vo,vt,vn,vv',va'⟩ x || memN (l.drop (k+1)) ⟨vo,vt,vn,vv',va'⟩):=by
    rw [hH.out,hdr];rfl
   have HST:Hid (R=(sameN ⟨vo,vt,vn,vv',va'⟩ x || memN (l.drop (k+1)) ⟨vo,vt,vn,vv',va'⟩)):=hst
   have eqx:=fun W=>eqNd ⟨vo,vt,vn,vv',va'⟩ x W
   obtain ⟨xo,xt,xn,xv,xa⟩:=x
   generalize sameN ⟨vo,vt,vn,vv',va'⟩ ⟨xo,xt,xn,xv,xa⟩=q at eqx HST
   have eqx':∀ W,(Op.equalIn 10000 74 (.agg #[.int .i64 vo,.string ⟨vt.toArray⟩,.string ⟨vn.toArray⟩,.int .i64 vv'.k,.int .i64 vv'.n,.int .i64 vv'.m,.string ⟨vv'.b.toArray⟩,.int .i64 va']) (.agg #[.int .i64 xo,.string ⟨xt.toArray⟩,.string ⟨xn.toArray⟩,.int .i64 xv.k,.int .i64 xv.n,.int .i64 xv.m,.string ⟨xv.b.toArray⟩,.int .i64 xa])).run Tryz.prog W=.ok q W:=eqx
   have z0:=hc.at 0
   have z1:=hc.at 1
   have z2:=hc.at 2
   have z3:=hc.at 3
   have z4:=hc.at 4
   have z5:=hc.at 5
   have z6:=hc.at 6
   have z7:=hc.at 7
   have zl:=hc.lt
   have HC:Hid (Cbox wr w.heap.size (ncs ⟨vo,vt,vn,vv',va'⟩) 74):=hc
   clear eqx hst hdr he hcl hH HR hc
   cases q with
   | true =>
    go_wp2
    go_region
    all_goals go_wp2
    all_goals go_ret
    all_goals exact ⟨⟨(k:Int),rfl,by rw [HST.out];simp⟩,by first|exact hb|exact hb.drew⟩
   | false =>
    have HF:Hid (R=memN (l.drop (k+1)) ⟨vo,vt,vn,vv',va'⟩):=by show R=_;rw [HST.out,Bool.false_or]
    go_wp2
    go_region
    all_goals go_wp2
    all_goals exact ⟨⟨k+1,by rw [cst1],by omega,HC.out,by first|exact hb|exact hb.drew,HF⟩,by simp [intOf];omega⟩
  ·have hlt':¬ (k:Int)<(n:Int):=by omega
   have HF:Hid (R=false):=by
    show R=false
    rw [hH.out,List.drop_eq_nil_of_le (by rw [HN.out];omega)];rfl
   clear hH HR hc
   go_wp2
   go_ret
   exact ⟨⟨-1,rfl,by rw [HF.out];rfl⟩,hb⟩
theorem contains_nd (ao:Option Addr) (cap:Nat) (l:List Nd) (v:Nd) (w:World) (hv:Nw w ao l) (hn:l.length≤140737488351232) :
  Calls Tryz.prog 79 #[.slice ao l.length cap,ndv v] w fun e w'=>e=.returned (.bool (memN l v))∧Below w.heap.size w w':=by
 have I:∀ W,Below w.heap.size w W→_:=fun W h=>idx_any ao cap l v W (hv.later h) hn
 obtain ⟨vo,vt,vn,vv',va'⟩:=v
 have A0:=(Below.refl w.heap.size w).alloc (Nat.le_refl _) (.cells (ncs ⟨vo,vt,vn,vv',va'⟩) 74)
 clear hv
 generalize memN l ⟨vo,vt,vn,vv',va'⟩=q at *
 generalize l.length=n at *
 go_enter Tryz.func79,Tryz.ntmps79
 go_wp2_with fail
 refine (I _ (by first|exact A0|exact Below.refl _ _)).mono ?_
 rintro e w1 ⟨⟨i,rfl,hi⟩,b1⟩
 have HI:Hid (decide (0≤i)=q):=hi
 clear hi I
 go_wp2
 go_ret
 exact ⟨by rw [← HI.out];rfl,by first|exact A0.trans (b1.mono A0.size)|exact b1⟩
def z5f:List Nd→List Nd→List Nd
 | [],out=>out
 | x::l,out=>z5f l (if x.o=2∧memN out x=false then out++[⟨2,x.t,x.n,vz0,0⟩] else out)
theorem z1n.later {w w':World} {base:Nat} {v:Value} {x:List Nd} (h:z1n w base v x) (hb:Below w.heap.size w w'):z1n w' base v x :=
 World.ownsRow.kept (row:=none) h ⟨hb.os,hb.tape,hb.output,hb.size,fun k hk _=>hb.block k hk⟩ (by
  cases hv:v.ownBlock with
  | none=>exact .inl rfl
  | some k=>exact .inr (by simp))
theorem columns_any (ao:Option Addr) (cap:Nat) (l:List Nd) (w:World) (hv:Nw w ao l) (hn:l.length≤140737488351232) (hs:shN l) (hT:Tabs w) :
  Calls Tryz.prog 55 #[.slice ao l.length cap] w fun e w'=>(∃ v,e=.returned v∧z1n w' w.heap.size v (if 0<depN mayN l then z5f l [] else []))∧Below w.heap.size w w':=by
 obtain ⟨i0,hi,hz0,hz1,hz2⟩:=info_parts infoNd
 have RI:=z7w ao cap l w hv hn hs hT
 by_cases hd:0<depN mayN l
 case neg =>
  rw [if_neg hd]
  rw [decide_eq_false hd] at RI
  clear hd hv hs hT
  generalize l.length=n at *
  go_enter Tryz.func55,Tryz.ntmps55
  go_wp2_with (go_at_call 54;refine RI.mono ?_;rintro e w1 ⟨rfl,b1⟩)
  go_ret
  exact ⟨⟨_,rfl,World.ownsRow_nil _ _ _ _⟩,b1⟩
 rw [if_pos hd]
 rw [decide_eq_true hd] at RI
 have hlen:l.length≤256:=by
  unfold depN at hd
  split at hd
  ·assumption
  ·omega
 obtain ⟨R,hR⟩:∃ R,R=z5f l []:=⟨_,rfl⟩
 rw [← hR]
 have HR:Hid (z5f (l.drop 0) []=R):=hR.symm
 have HSH:Hid (shN l):=hs
 clear hR hd hs hT
 obtain ⟨n,hnn⟩:∃ n,l.length=n:=⟨_,rfl⟩
 rw [hnn] at hn hlen RI ⊢
 have HN:Hid (l.length=n):=hnn
 clear hnn
 go_enter Tryz.func55,Tryz.ntmps55
 go_wp2_with (go_at_call 54;refine RI.mono ?_;rintro e w1 ⟨rfl,b1⟩)
 go_loopw [3,11] (fun r3 r11 wr=>∃ (k:Nat) (out:List Nd),r11=.int .i64 (k:Int)∧k≤n∧out.length≤k∧z1n wr w.heap.size r3 out∧Below w.heap.size w wr∧Hid (z5f (l.drop k) out=R)) (fun _ r _=>n - (intOf r).toNat)
 case atStart=>exact ⟨0,[],rfl,Nat.zero_le _,Nat.zero_le _,World.ownsRow_nil _ _ _ _,b1,HR⟩
 case round =>
  obtain ⟨k,out,rfl,hk,hol,ho,hb,hH⟩:=hrel
  have sB:=hb.size
  by_cases hlt:k<n
  ·have hlt':(k:Int)<(n:Int):=by omega
   have hkl:k<l.length:=by rw [HN.out];exact hlt
   obtain ⟨b,off,rfl,hcl⟩:=hv (by omega)
   obtain ⟨c0,c1,c2,c3,c4,c5,c6,c7⟩:=((hcl k hkl).later hb)
   have hg:=(hcl k hkl).lt
   have hg':b<wr.heap.size:=by omega
   have hdr:l.drop k=l[k]::l.drop (k+1):=List.drop_eq_getElem_cons hkl
   have hshx:=HSH.out l[k] (List.getElem_mem _)
   obtain ⟨x,he⟩:∃ x:Nd,x=l[k]:=⟨_,rfl⟩
   rw [← he] at c0 c1 c2 c3 c4 c5 c6 c7 hdr hshx
   have HST:Hid (z5f (l.drop (k+1)) (if x.o=2∧memN out x=false then out++[⟨2,x.t,x.n,vz0,0⟩] else out)=R):=by
    have:=hH.out
    rw [hdr] at this
    exact this
   obtain ⟨oa,oc,rfl,hnw⟩:=ho.lies
   have A1:Below w.heap.size w (wr.alloc (.cells (ncs x) 74)):=hb.alloc sB _
   have A2:Below wr.heap.size wr (wr.alloc (.cells (ncs x) 74)):=(Below.refl _ _).alloc (Nat.le_refl _) _
   have CN:=contains_nd oa oc out x _ (hnw.later A2) (by omega)
   have BX:Hid (Cbox (wr.alloc (.cells (ncs x) 74)) wr.heap.size (ncs x) 74):=Cbox.new wr _ _
   have HO:Hid (z1n wr w.heap.size (.slice oa out.length oc) out):=ho
   clear hcl he hH HR hdr ho
   by_cases h2:x.o=2
   case neg =>
    have h2':(x.o==2)=false:=by rw [beq_eq_false_iff_ne];exact h2
    rw [if_neg (fun h=>h2 h.1)] at HST
    clear CN BX
    obtain ⟨xo,xt,xn,xv,xa⟩:=x
    simp only at h2' h2
    go_wp2
    exact ⟨⟨k+1,out,by rw [cst1],by omega,by omega,World.ownsRow.alloc HO.out _,A1,HST⟩,by simp [intOf];omega⟩
   ·obtain ⟨xo,xt,xn,xv,xa⟩:=x
    simp only at h2
    subst h2
    simp only at hshx
    cases hm:memN out ⟨2,xt,xn,xv,xa⟩ with
    | true =>
     rw [hm] at CN
     rw [if_neg (by rw [hm];simp)] at HST
     go_wp2_with (go_at_call 79;refine CN.mono ?_;rintro e w2 ⟨rfl,b2⟩)
     have B2:Below w.heap.size w w2:=A1.trans (b2.mono A1.size)
     exact ⟨⟨k+1,out,by rw [cst1],by omega,by omega,z1n.later (World.ownsRow.alloc HO.out _) b2,B2,HST⟩,by simp [intOf];omega⟩
    | false =>
     rw [hm] at CN
     rw [if_pos (by rw [hm];exact ⟨rfl,rfl⟩)] at HST
     have C1:=fun W=>z4a ⟨xt.toArray⟩ W hshx.1
     have C2:=fun W=>z4a ⟨xn.toArray⟩ W hshx.2
     go_wp2_with (go_at_call 79;refine CN.mono ?_;rintro e w2 ⟨rfl,b2⟩)
     have B2:Below w.heap.size w w2:=A1.trans (b2.mono A1.size)
     have ho2:=z1n.later (World.ownsRow.alloc HO.out (.cells (ncs ⟨2,xt,xn,xv,xa⟩) 74)) b2
     have bx2:=Cbox.later BX.out b2
     refine wp_region_held_drew (S:=(fun W=>Cbox W wr.heap.size (ncs ⟨2,xt,xn,xv,xa⟩) 74∧Below w.heap.size w W)) gK ?_ (fun hHeld=>?_)
     ·exact ⟨bx2,B2.drew⟩
     refine wpAnyH_take (i:=0) (oi:=⟨some 24,.move (.tmp 3),31, "expr.go:65",#[],none⟩) (v:=?_) rfl gK gK gK (fun _ _ _ h=>h) (Or.inl ⟨by rfl,?_⟩) (by assumption) ?_
     rotate_left
     ·(intro W hSw;(try dsimp only at hSw);have C:=hSw.1;have e1:=C.at 1;have e2:=C.at 2;clear C;first|(go_simp;done)|(go_simp;with_reducible rfl))
     try simp only [Act.put,List.setIfInBounds_toArray,List.set_cons_zero,List.set_cons_succ]
     refine wpAnyH_take (i:=1) (oi:=⟨some 25,.fieldAddr 74 (.tmp 5) 1,0, "expr.go:65",#[],none⟩) (v:=?_) rfl gK gK gK (fun _ _ _ h=>h) (Or.inl ⟨by rfl,?_⟩) (by assumption) ?_
     rotate_left
     ·(intro W hSw;(try dsimp only at hSw);have C:=hSw.1;have e1:=C.at 1;have e2:=C.at 2;clear C;first|(go_simp;done)|(go_simp;with_reducible rfl))
     try simp only [Act.put,List.setIfInBounds_toArray,List.set_cons_zero,List.set_cons_succ]
     refine wpAnyH_take (i:=2) (oi:=⟨some 26,.load 9 (.tmp 25),9, "expr.go:65",#[⟨1,.data⟩],none⟩) (v:=?_) rfl gK gK gK (fun _ _ _ h=>h) (Or.inl ⟨by rfl,?_⟩) (by assumption) ?_
     rotate_left
     ·(intro W hSw;(try dsimp only at hSw);have C:=hSw.1;have e1:=C.at 1;have e2:=C.at 2;clear C;first|(go_simp;done)|(go_simp;with_reducible rfl))
     try simp only [Act.put,List.setIfInBounds_toArray,List.set_cons_zero,List.set_cons_succ]
     refine wpAnyH_take (i:=4) (oi:=⟨some 28,.fieldAddr 74 (.tmp 5) 2,0, "expr.go:65",#[],none⟩) (v:=?_) rfl gK gK gK (fun _ _ _ h=>h) (Or.inl ⟨by rfl,?_⟩) (by assumption) ?_
     rotate_left
     ·(intro W hSw;(try dsimp only at hSw);have C:=hSw.1;have e1:=C.at 1;have e2:=C.at 2;clear C;first|(go_simp;done)|(go_simp;with_reducible rfl))
     try simp only [Act.put,List.setIfInBounds_toArray,List.set_cons_zero,List.set_cons_succ]
     refine wpAnyH_take (i:=5) (oi:=⟨some 29,.load 9 (.tmp 28),9, "expr.go:65",#[⟨4,.data⟩],none⟩) (v:=?_) rfl gK gK gK (fun _ _ _ h=>h) (Or.inl ⟨by rfl,?_⟩) (by assumption) ?_
     rotate_left
     ·(intro W hSw;(try dsimp only at hSw);have C:=hSw.1;have e1:=C.at 1;have e2:=C.at 2;clear C;first|(go_simp;done)|(go_simp;with_reducible rfl))
     try simp only [Act.put,List.setIfInBounds_toArray,List.set_cons_zero,List.set_cons_succ]
     refine wpAnyH_ready (rs:=[3]) gK (by simp) ?_
     refine AllReadyH.cons (o:=⟨some 27,.call { callee:=Callee.value (Operand.func 35),args:=#[.tmp 26],argTypes:=#[9] },9, "expr.go:65",#[⟨2,.data⟩],none⟩) rfl (fun K hK=>?_) AllReadyH.nil
     go_simp
     go_wp2_with (go_at_call 35;refine (C1 _).mono ?_;rintro e w3 ⟨rfl,b3⟩)
     refine hK.out _ _ ?_ (fun hHeld=>?_)
     ·((try dsimp only);exact ⟨Cbox.later hHeld.1 b3,z0a hHeld.2 b3⟩)
     clear hK K
     try simp only [Act.put,List.setIfInBounds_toArray,List.set_cons_zero,List.set_cons_succ]
     refine wpAnyH_ready (rs:=[6]) gK (by simp) ?_
     refine AllReadyH.cons (o:=⟨some 30,.call { callee:=Callee.value (Operand.func 35),args:=#[.tmp 29],argTypes:=#[9] },9, "expr.go:65",#[⟨5,.data⟩,⟨3,.chain⟩],none⟩) rfl (fun K hK=>?_) AllReadyH.nil
     go_simp
     go_wp2_with (go_at_call 35;refine (C2 _).mono ?_;rintro e w4 ⟨rfl,b4⟩)
     refine hK.out _ _ ?_ (fun hHeld=>?_)
     ·((try dsimp only);exact ⟨Cbox.later hHeld.1 b4,z0a hHeld.2 b4⟩)
     clear hK K
     try simp only [Act.put,List.setIfInBounds_toArray,List.set_cons_zero,List.set_cons_succ]
     have H4:Hid (Below w2.heap.size w2 w4):=z0a (z0a ((Below.refl w2.heap.size w2).drew) b3) b4
     have s4:=hHeld.2.size
     have s2:=B2.size
     refine wpAnyH_take (i:=7) (oi:=⟨some 31,.build 74 #[(0,Operand.const (Value.int IntKind.i64 2)),(1,.tmp 27),(2,.tmp 30)],74, "expr.go:65",#[⟨3,.data⟩,⟨6,.data⟩],none⟩) (v:=?_) rfl gK gK gK (fun _ _ _ h=>h) (Or.inl ⟨by rfl,?_⟩) (by assumption) ?_
     rotate_left
     ·(intro W hSw;(try dsimp only at hSw);have C:=hSw.1;have e1:=C.at 1;have e2:=C.at 2;clear C;first|(go_simp;done)|(go_simp;with_reducible rfl))
     try simp only [Act.put,List.setIfInBounds_toArray,List.set_cons_zero,List.set_cons_succ]
     refine wpAnyH_ready (rs:=[8]) gK (by simp) ?_
     refine AllReadyH.cons (o:=⟨some 32,.buildSlice 31 1 #[(0,.tmp 31)],31, "expr.go:65",#[⟨7,.data⟩],none⟩) rfl (fun K hK=>?_) AllReadyH.nil
     go_simp
     refine hK.out _ _ ?_ (fun hHeld=>?_)
     ·((try dsimp only);exact ⟨Cbox.later hHeld.1 ((Below.refl _ _).alloc (Nat.le_refl _) _),hHeld.2.alloc hHeld.2.size _⟩)
     clear hK K
     try simp only [Act.put,List.setIfInBounds_toArray,List.set_cons_zero,List.set_cons_succ]
     refine wpAnyH_ready (rs:=[9]) gK (by simp) ?_
     refine AllReadyH.cons (o:=⟨some 33,.call { callee:=Callee.builtin Builtin.append,args:=#[.tmp 24,.tmp 32],argTypes:=#[31,31] },31, "expr.go:65",#[⟨0,.data⟩,⟨8,.data⟩,⟨6,.chain⟩],none⟩) rfl (fun K hK=>?_) AllReadyH.nil
     (refine step_append_lies _ (by rfl) _ _ _ (by rfl) w.heap.size 74 i0 _ 8 88 Tryz.underlying31 hi hz0 hz1 hz2 rfl (by omega) _ out.length (z4p out) (by rfl) (World.ownsRow.alloc (z1n.later ho2 H4.out) _) ⟨w4.heap.size,0,none⟩ 1 1 (ncs ⟨2,xt,xn,vz0,0⟩).toList (by rfl) (by rfl) (World.news_of_block (cs:=ncs ⟨2,xt,xn,vz0,0⟩) (t:=74) (fr:=(0,0)) (heap_alloc_new w4 _)) (one_nd ⟨2,xt,xn,vz0,0⟩) (by omega) (by unfold maxLen;omega) (by omega) (by simp;omega) (w4.heap.size+1) (by simp) ?_;intro gg gc w5 hown5 hgrow hat hlt5)
     have hrw:=World.ownsRow.lt HO.out
     refine hK.out _ _ ?_ (fun hHeld=>?_)
     ·exact ⟨Cbox.grown hHeld.1 hgrow (fun e=>by have:=(hrw _ e.symm).2;omega),hHeld.2.grown hgrow (by simp;omega) (fun k hk=>(hrw k hk).1)⟩
     clear hK K
     try simp only [Act.put,List.setIfInBounds_toArray,List.set_cons_zero,List.set_cons_succ]
     refine wpAnyH_take (i:=10) (oi:=⟨some 3,.assign (.tmp 33),31, "expr.go:65",#[⟨9,.data⟩,⟨9,.chain⟩,⟨0,.phase⟩,⟨1,.phase⟩,⟨2,.phase⟩,⟨3,.phase⟩,⟨4,.phase⟩,⟨5,.phase⟩,⟨6,.phase⟩,⟨7,.phase⟩,⟨8,.phase⟩,⟨9,.phase⟩],none⟩) (v:=?_) rfl gK gK gK (fun _ _ _ h=>h) (Or.inl ⟨by rfl,?_⟩) (by assumption) ?_
     rotate_left
     ·(intro W hSw;(try dsimp only at hSw);have C:=hSw.1;have e1:=C.at 1;have e2:=C.at 2;clear C;first|(go_simp;done)|(go_simp;with_reducible rfl))
     try simp only [Act.put,List.setIfInBounds_toArray,List.set_cons_zero,List.set_cons_succ]
     refine wpAnyH_done gK ?_ _
     go_wp2
     have ho5:=z1n.push (x:=⟨2,xt,xn,vz0,0⟩) hown5 rfl
     exact ⟨⟨k+1,out++[⟨2,xt,xn,vz0,0⟩],by rw [cst1],by omega,by simp;omega,ho5,hHeld.2,HST⟩,by simp [intOf];omega⟩
  ·have hlt':¬ (k:Int)<(n:Int):=by omega
   have HF:Hid (out=R):=by
    have:=hH.out
    rw [List.drop_eq_nil_of_le (by rw [HN.out];omega)] at this
    exact this
   clear hH HR
   go_wp2
   go_ret
   have h:=HF.out
   subst h
   exact ⟨⟨_,rfl,ho⟩,hb⟩
theorem z1n.base_le {w:World} {b b':Nat} {v:Value} {x:List Nd} (h:z1n w b v x) (hb:b'≤b):z1n w b' v x:=by
 obtain ⟨h1,h2⟩:=h
 refine ⟨h1,?_⟩
 rcases h2 with h2|⟨g,cap,cur,e1,e2,e3⟩
 ·exact .inl h2
 ·exact .inr ⟨g,cap,cur,e1,Nat.le_trans hb e2,e3⟩
def parseP (R:Rz) (n base:Nat) (e:Ending) (w':World):Prop :=
 if R.1=0 then (if 0<depN mayN R.2.2 then (if R.2.1<n then e=.returned (.tuple #[.slice none 0 0,.int .i64 30]) else ∃ v,e=.returned (.tuple #[v,.int .i64 0])∧z1n w' base v R.2.2) else e=.returned (.tuple #[.slice none 0 0,.int .i64 38]))
 else e=.returned (.tuple #[.slice none 0 0,.int .i64 (R.1:Int)])
theorem parse6_any (l:List UInt8) (x:List Tok) (V:List UInt8→Option Va) (w:World) (hl:l.length≤4096) (hT:Tabs w) (hP:Ptab w) (hS:Sg w) (hx:lexL vz dpv l 0=some x) (hn:x.length≤4096)
  (PA:∀ W,Below w.heap.size w W→Pars W (x.map tin) V) (R:Rz) (hR:rdx (nxt (x.map tin)) V (x.length+1) (7+8*x.length) .ex 0 [] 0=R) (hsh:shN R.2.2) (hr2:R.2.1≤4096) :
  Calls Tryz.prog 20 #[.string ⟨l.toArray⟩] w fun e w'=>parseP R x.length w.heap.size e w'∧Below w.heap.size w w':=by
 have SP:=split_any l w hl hT hP
 rw [hx] at SP
 have RD:Hid (∀ W v,Below w.heap.size w W→z8f W w.heap.size v x→Calls Tryz.prog 41 #[v] W fun e w'=>readP R W.heap.size e w'∧Below W.heap.size W w'):=by
  intro W v hW hv
  obtain ⟨ao,cap,rfl,htw⟩:=hv.shape
  have:=read_any ao (x.map tin) cap V W ⟨htw,hT.later hW,hP.later hW,by rw [List.length_map];exact hn,hS.later hW⟩ (PA W hW) R (by rw [List.length_map];exact hR) hsh
  rw [List.length_map] at this
  exact this
 have TS:Hid (∀ W v,z8f W w.heap.size v x→∃ ao cap,v=.slice ao x.length cap):=by
  intro W v hv
  obtain ⟨ao,cap,h,_⟩:=hv.shape
  exact ⟨ao,cap,h⟩
 clear hT hP hS PA hR hsh hx
 obtain ⟨r0,r1,r2⟩:=R
 simp only at hr2
 unfold parseP
 unfold readP at RD
 simp only at RD ⊢
 generalize hxl:x.length=n at *
 by_cases h0:r0=0
 case neg =>
  simp only [if_neg h0] at RD ⊢
  have h0':((r0:Int)==0)=false:=by rw [beq_eq_false_iff_ne];omega
  go_enter Tryz.func20,Tryz.ntmps20
  go_wp2_with (first
   | (go_at_call 40;refine SP.mono ?_;rintro e w1 ⟨⟨v,rfl,h1⟩,b1⟩;obtain ⟨ao,cap,rfl⟩:=TS.out _ _ h1;have RD1:=RD.out _ _ b1 h1)
   | (go_at_call 41;refine RD1.mono ?_;rintro e w2 ⟨rfl,b2⟩))
  refine bodyPost_ret_by (v:=.tuple #[.slice none 0 0,.int .i64 (r0:Int)]) ?_ rfl ⟨rfl,z0a b1 b2⟩
  simp [results,Tryz.results20,go_sem]
 subst h0
 simp only [↓reduceIte] at RD ⊢
 by_cases hd:0<depN mayN r2
 case neg =>
  simp only [if_neg hd] at RD ⊢
  go_enter Tryz.func20,Tryz.ntmps20
  go_wp2_with (first
   | (go_at_call 40;refine SP.mono ?_;rintro e w1 ⟨⟨v,rfl,h1⟩,b1⟩;obtain ⟨ao,cap,rfl⟩:=TS.out _ _ h1;have RD1:=RD.out _ _ b1 h1)
   | (go_at_call 41;refine RD1.mono ?_;rintro e w2 ⟨rfl,b2⟩))
  refine bodyPost_ret_by (v:=.tuple #[.slice none 0 0,.int .i64 38]) ?_ rfl ⟨rfl,z0a b1 b2⟩
  simp [results,Tryz.results20,go_sem]
 simp only [if_pos hd] at RD ⊢
 by_cases hlt:r1<n
 ·simp only [if_pos hlt]
  have hlt':(r1:Int)<(n:Int):=by omega
  go_enter Tryz.func20,Tryz.ntmps20
  go_wp2_with (first
   | (go_at_call 40;refine SP.mono ?_;rintro e w1 ⟨⟨v,rfl,h1⟩,b1⟩;obtain ⟨ao,cap,rfl⟩:=TS.out _ _ h1;have RD1:=RD.out _ _ b1 h1)
   | (go_at_call 41;refine RD1.mono ?_;rintro e w2 ⟨⟨nv,rfl,h2⟩,b2⟩))
  refine bodyPost_ret_by (v:=.tuple #[.slice none 0 0,.int .i64 30]) ?_ rfl ⟨rfl,z0a b1 b2⟩
  simp [results,Tryz.results20,go_sem]
 ·simp only [if_neg hlt]
  have hlt':¬ (r1:Int)<(n:Int):=by omega
  go_enter Tryz.func20,Tryz.ntmps20
  go_wp2_with (first
   | (go_at_call 40;refine SP.mono ?_;rintro e w1 ⟨⟨v,rfl,h1⟩,b1⟩;obtain ⟨ao,cap,rfl⟩:=TS.out _ _ h1;have RD1:=RD.out _ _ b1 h1)
   | (go_at_call 41;refine RD1.mono ?_;rintro e w2 ⟨⟨nv,rfl,h2⟩,b2⟩))
  refine bodyPost_ret_by (v:=.tuple #[nv,.int .i64 0]) ?_ rfl ⟨⟨nv,rfl,z1n.base_le h2 b1.size⟩,z0a b1 b2⟩
  simp [results,Tryz.results20,go_sem]
end Go.Proofs.YtljkonkfeiojnaaGreatDoor

namespace Go.Proofs.YtljkonkfeiojnaaGreatDoor
open Go.ChangeShapes Go.WideShapes Go.ChangeAt Go.WideMaps Go.WideElems Go.RowKit Go.Shelf Go.Lib
theorem ptab8_of {W:World} (h:VarReads Tryz.prog W "internal/strconv.uint64pow10" Rows.laid_internal_strconv_uint64pow10):Ptab W:=by
 obtain ⟨g',t',cs,fuel,p,hg',ht',hvar,hd⟩:=h
 have hg:Tryz.prog.globalNamed "internal/strconv.uint64pow10"=some 3:=by kernel_rfl
 have hty:(Tryz.prog.globals[3]?).map (·.type)=some 188:=by kernel_rfl
 obtain rfl:=Option.some.inj (hg.symm.trans hg')
 obtain rfl:=Option.some.inj (hty.symm.trans ht')
 have hd':DataW.trod (fun _=>()) Tryz.prog W 0 (fun _=>true) false fuel 188 cs.toList=some (Lib.tabData .u64 Lib.pow10Tab,p):=by
  rw [hd,show Rows.laid_internal_strconv_uint64pow10=Lib.tabData (H:=Unit) .u64 Lib.pow10Tab by kernel_rfl]
 unfold Ptab Lib.TabIs
 rw [hvar,← cells_of_tab Tryz.underlying188 Tryz.underlying124 gK gK hd']
theorem cells_of_texts8 {H:Type} {enc:TypeId × Value→H} {P:Program} {w:World} {base:Nat} {sp:Nat→Bool} {held:Bool} {fuel:Nat} {t e:TypeId} {n:Nat} {cs:List Value} {ss:List (List UInt8)} {p:List MemPlace}
  (ht:P.underlying t=some (.array n e)) (he:P.underlying e=some .string) (hce:P.cellsOf e=1) (hct:P.cellsOf t=n)
  (h:DataW.trod enc P w base sp held fuel t cs=some (.agg (ss.map fun s=>.lit (.string s)),p)):cs=ss.map fun s=>Value.string ⟨s.toArray⟩:=by
 cases fuel with
 | zero=>simp [DataW.trod] at h
 | succ fuel =>
  simp only [DataW.trod,ht,hce,hct,Nat.mul_one] at h
  split at h
  ·rename_i hl
   obtain ⟨xs,hm,hx⟩:=Option.map_eq_some_iff.1 h
   have hxs:xs.map (·.1)=ss.map fun s=>(DataW.lit (.string s):DataW H):=by
    have:=congrArg Prod.fst hx
    simpa using this
   have hxl:xs.length=n:=by simpa using Lib.mapM_length hm
   have hzl:ss.length=n:=by
    have:=congrArg List.length hxs
    simp at this
    omega
   apply List.ext_getElem?
   intro i
   by_cases hi:i<n
   ·obtain ⟨b,hb,hf⟩:=mapM_at hm i i (by simp [hi])
    obtain ⟨z,hc,rfl,_⟩:=DataW.trod_string he hf
    have h1:cs[i]?=some (.string z):=by
     have:=congrArg (·[0]?) hc
     simpa [List.getElem?_take,List.getElem?_drop] using this
    have h2:(xs.map (·.1))[i]?=some (DataW.lit (.string z.data.toList):DataW H):=by simp [hb]
    rw [hxs] at h2
    simp only [List.getElem?_map,Option.map_eq_some_iff,DataW.lit.injEq,Lit.string.injEq] at h2
    obtain ⟨z',hz',rfl⟩:=h2
    simp [h1,hz']
   ·rw [List.getElem?_eq_none (by omega),List.getElem?_eq_none (by simp;omega)]
  ·cases h
theorem sg8_of {W:World} (h:VarReads Tryz.prog W "longstop/expr.signs" Rows.laid_longstop_expr_signs):Sg W:=by
 obtain ⟨g',t',cs,fuel,p,hg',ht',hvar,hd⟩:=h
 have hg:Tryz.prog.globalNamed "longstop/expr.signs"=some 4:=by kernel_rfl
 have hty:(Tryz.prog.globals[4]?).map (·.type)=some 215:=by kernel_rfl
 obtain rfl:=Option.some.inj (hg.symm.trans hg')
 obtain rfl:=Option.some.inj (hty.symm.trans ht')
 have hd':DataW.trod (fun _=>()) Tryz.prog W 0 (fun _=>true) false fuel 215 cs.toList=some (.agg (((List.range 19).map sgn).map fun s=>.lit (.string s)),p):=by
  rw [hd,show (Rows.laid_longstop_expr_signs:DataW Unit)=.agg (((List.range 19).map sgn).map fun s=>.lit (.string s)) by kernel_rfl]
 have hcs:=cells_of_texts8 Tryz.underlying215 Tryz.underlying9 gK gK hd'
 intro i hi
 have hc:=World.var?_cell hg hvar i
 rw [hc]
 have e:cs=(((List.range 19).map sgn).map fun s=>Value.string ⟨s.toArray⟩).toArray:=by
  rw [← Array.toArray_toList (xs:=cs),hcs]
 rw [e]
 simp [hi]
end Go.Proofs.YtljkonkfeiojnaaGreatDoor

namespace Go.Proofs.YtljkonkfeiojnaaGreatDoor
open Go.RowKit Go.Shelf
attribute [local go_sem] z0f z0b z0c z0e z0m z0k z0h z0d z0g
theorem vtold_no (t:List UInt8) (w:World) (hl:t.length≤140737488351232) (h39:(t.head?==some 39)=false) (h60:(t.head?==some 60)=false) (n1:((ByteArray.mk t.toArray).toList==[110,117,108,108])=false) (n2:((ByteArray.mk t.toArray).toList==[116,114,117,101])=false) (n3:((ByteArray.mk t.toArray).toList==[102,97,108,115,101])=false)
  (hPR:PR (z6v t)=none):Calls Tryz.prog 127 #[.string ⟨t.toArray⟩] w fun e w'=>(∃ v,e=.returned (.tuple #[vv v,.bool false]))∧Below w.heap.size w w':=by
 have H39:∀ W,Calls Tryz.prog 175 #[.string ⟨t.toArray⟩,.string ⟨#[39]⟩] W fun e w'=>e=.returned (.bool (t.head?==some 39))∧W=w':=fun W=>z6y ⟨t.toArray⟩ 39 W (by show t.length≤_;omega)
 have H60:∀ W,Calls Tryz.prog 175 #[.string ⟨t.toArray⟩,.string ⟨#[60]⟩] W fun e w'=>e=.returned (.bool (t.head?==some 60))∧W=w':=fun W=>z6y ⟨t.toArray⟩ 60 W (by show t.length≤_;omega)
 have N:=fun W=>z7g t W hl
 have hf:(tnv t).2=false:=by unfold tnv;rw [hPR]
 rw [h60] at H60
 rw [h39] at H39
 rw [hf] at N
 rcases hx:(tnv t).1 with ⟨k,n,m,b⟩
 rw [hx] at N
 have N':∀ W,Calls Tryz.prog 178 #[.string ⟨t.toArray⟩] W fun e w'=>e=.returned (.tuple #[va k n m ⟨b.toArray⟩,.bool false])∧Below W.heap.size W w':=N
 have HE:Hid (∃ v,Ending.returned (.tuple #[va k n m ⟨b.toArray⟩,.bool false])=.returned (.tuple #[vv v,.bool false])):=⟨⟨k,n,m,b⟩,rfl⟩
 clear N hx hf hPR h39 h60 hl
 generalize ByteArray.mk t.toArray=B at *
 generalize ByteArray.mk b.toArray=C at *
 go_enter Tryz.func127,Tryz.ntmps127
 go_wp2_with (first
  | (go_at_call 175;with_reducible refine (H39 _).mono ?_;rintro e w' ⟨rfl,rfl⟩)
  | (go_at_call 175;with_reducible refine (H60 _).mono ?_;rintro e w' ⟨rfl,rfl⟩)
  | (go_at_call 178;refine (N' _).mono ?_;rintro e w1 ⟨rfl,b1⟩;have bx:Box w1 w.heap.size ⟨0,0,0,[]⟩:=(Box.new w 0 0 0 []).later b1;obtain ⟨c0,c1,c2,c3⟩:=bx.at4;have f0:=bx.free 0;have f1:=bx.free 1;have f2:=bx.free 2;have f3:=bx.free 3;have lt1:=bx.lt;clear bx))
 refine bodyPost_ret_by (v:=.tuple #[va k n m C,.bool false]) ?_ rfl ⟨HE.out,?_⟩
 ·simp [results,Tryz.results127,go_sem,c0,c1,c2,c3]
 ·have b0:Below w.heap.size w w1:=((Below.refl _ w).alloc (Nat.le_refl _) _).trans (b1.mono (by simp))
  exact (((b0.setCell (p:=⟨w.heap.size,0,none⟩) (Nat.le_refl _) _).setCell (p:=⟨w.heap.size,1,none⟩) (Nat.le_refl _) _).setCell (p:=⟨w.heap.size,2,none⟩) (Nat.le_refl _) _).setCell (p:=⟨w.heap.size,3,none⟩) (Nat.le_refl _) _
theorem vparse_no (t:List UInt8) (w:World) (hl:t.length≤140737488351232) (h39:(t.head?==some 39)=false) (h60:(t.head?==some 60)=false) (n1:((ByteArray.mk t.toArray).toList==[110,117,108,108])=false) (n2:((ByteArray.mk t.toArray).toList==[116,114,117,101])=false) (n3:((ByteArray.mk t.toArray).toList==[102,97,108,115,101])=false)
  (hPR:PR (z6v t)=none):Calls Tryz.prog 87 #[.string ⟨t.toArray⟩] w fun e w'=>e=.returned (dpR none)∧Below w.heap.size w w':=by
 have T:=fun W=>vtold_no t W hl h39 h60 n1 n2 n3 hPR
 show Calls _ _ _ _ fun e w'=>e=.returned (.tuple #[va 0 0 0 ⟨#[]⟩,.int .i64 21])∧_
 clear n1 n2 n3 h39 h60 hPR hl
 generalize ByteArray.mk t.toArray=B at *
 go_enter Tryz.func87,Tryz.ntmps87
 go_wp2_with fail
 refine (T _).mono ?_
 rintro e w1 ⟨⟨⟨k,n,m,b⟩,rfl⟩,b1⟩
 have bx:Box w1 w.heap.size ⟨0,0,0,[]⟩:=(Box.new w 0 0 0 []).later b1
 have B1:Below w.heap.size w w1:=((Below.refl _ w).alloc (Nat.le_refl _) _).trans (b1.mono (by simp))
 have s1:=B1.size
 obtain ⟨c0,c1,c2,c3⟩:=bx.at4
 have f0:=bx.free 0
 have f1:=bx.free 1
 have f2:=bx.free 2
 have f3:=bx.free 3
 have lt1:=bx.lt
 clear b1 bx
 go_wp2
 refine bodyPost_ret_by (v:=.tuple #[va 0 0 0 ⟨#[]⟩,.int .i64 21]) ?_ rfl ⟨rfl,?_⟩
 ·simp [results,Tryz.results87,go_sem,c0,c1,c2,c3,lt1]
 ·refine Below.alloc ?_ (by simp;omega) _
  have B2:=B1
  exact (((B2.setCell (p:=⟨w.heap.size,0,none⟩) (Nat.le_refl _) _).setCell (p:=⟨w.heap.size,1,none⟩) (Nat.le_refl _) _).setCell (p:=⟨w.heap.size,2,none⟩) (Nat.le_refl _) _).setCell (p:=⟨w.heap.size,3,none⟩) (Nat.le_refl _) _
abbrev C0t:List UInt8:=[97,32,62,32,48]
abbrev C1t:Tok:=⟨1,[97],vz,0⟩
abbrev C2t:Tok:=⟨2,[62],vz,2⟩
abbrev C3t:Tok:=⟨3,[48],⟨1,0,0,[]⟩,4⟩
theorem pv_0:pv ⟨1,0,0,[]⟩=[48]:=by
 have hPR:PR [48]=some (false,0,0):=by decide +kernel
 have hb:=(PR_back [48] false 0 0 hPR (by decide +kernel)).2
 have hvr:vr ⟨1,0,0,[]⟩=true:=by decide +kernel
 unfold pv
 rw [if_pos hvr]
 show z2z 0 0=_
 exact hb
theorem dpv_0:dpv [48]=some ⟨1,0,0,[]⟩:=by
 have hPR:PR [48]=some (false,0,0):=by decide +kernel
 have htl:tlv [48]=(⟨1,0,0,[]⟩,true):=by
  unfold tlv tnv
  rw [if_neg (by decide),show z6v [48]=[48] by decide,hPR]
  rfl
 unfold dpv
 rw [htl]
 rw [if_pos ⟨rfl,pv_0⟩]
theorem lex_C1 (l:List UInt8) (i:Nat) (c:UInt8) (x:Tok) (h:isB c=false) (hk:tok vz dpv (c::l) i=some x):lexL vz dpv (c::l) i=(lexL vz dpv ((c::l).drop x.t.length) (i+x.t.length)).map (x::·):=by
 rw [lex_tok _ _ _ h,hk]
theorem lex_C:lexL vz dpv C0t 0=some [C1t,C2t,C3t]:=by
 rw [lex_C1 _ 0 97 C1t (by decide) (by
  have h:lxt C0t=(1,1):=by decide +kernel
  unfold tok;rw [h];rfl)]
 show (lexL vz dpv [32,62,32,48] 1).map _=_
 rw [lex_blank _ _ _ (by decide),lex_C1 _ _ 62 C2t (by decide) (by
  have h:lxt [62,32,48]=(2,1):=by decide +kernel
  unfold tok;rw [h];rfl)]
 show Option.map _ (Option.map _ (lexL vz dpv [32,48] 3))=_
 rw [lex_blank _ _ _ (by decide),lex_C1 _ _ 48 C3t (by decide) (by
  have h:lxt [48]=(3,1):=by decide +kernel
  unfold tok
  rw [h,if_neg (by decide),if_neg (by decide),if_pos rfl,show ([48]:List UInt8).take (3,1).2=[48] from rfl,dpv_0])]
 rfl
theorem rt_oneC (c:UInt8) (x:Ti) (y:Tok) (hx:x.t=[c]) (h:isB c=false) (hk:tok vz dpv [c] 0=some y) (hy:y.t=[c]) (hs:sameT (tin y) ⟨x.k,x.t,x.v,0⟩=true):rtok x=true:=by
 unfold rtok
 rw [hx,if_pos (by simp)]
 rw [lex_tok _ _ _ h,hk]
 have e:(lexL vz dpv (([c]:List UInt8).drop y.t.length) (0+y.t.length)).map (y::·)=some [y]:=by rw [hy];rfl
 show rt1 ((lexL vz dpv (([c]:List UInt8).drop y.t.length) (0+y.t.length)).map (y::·)) x=true
 rw [e]
 exact hs
theorem rt_C1:rtok (tin C1t)=true:=rt_oneC 97 _ ⟨1,[97],vz,0⟩ rfl (by decide) (by
  have h:lxt [97]=(1,1):=by decide +kernel
  unfold tok;rw [h];rfl) rfl rfl
theorem rt_C2:rtok (tin C2t)=true:=rt_oneC 62 _ ⟨2,[62],vz,0⟩ rfl (by decide) (by
  have h:lxt [62]=(2,1):=by decide +kernel
  unfold tok;rw [h];rfl) rfl rfl
theorem rt_C3:rtok (tin C3t)=true:=rt_oneC 48 _ ⟨3,[48],⟨1,0,0,[]⟩,0⟩ rfl (by decide) (by
  have h:lxt [48]=(3,1):=by decide +kernel
  unfold tok
  rw [h,if_neg (by decide),if_neg (by decide),if_pos rfl,show ([48]:List UInt8).take (3,1).2=[48] from rfl,dpv_0]) rfl rfl
def nxC (k:Nat):Ti:=match [tin C1t,tin C2t,tin C3t][k]? with|some x=>x|none=>tz
theorem nx_C:nxt ([C1t,C2t,C3t].map tin)=nxC:=by
 funext k
 match k with
 | 0=>show (if rtok (tin C1t)=true then tin C1t else tz)=_;rw [rt_C1];rfl
 | 1=>show (if rtok (tin C2t)=true then tin C2t else tz)=_;rw [rt_C2];rfl
 | 2=>show (if rtok (tin C3t)=true then tin C3t else tz)=_;rw [rt_C3];rfl
 | k+3=>rfl
def vC (t:List UInt8):Option Va:=if t=[48] then some ⟨1,0,0,[]⟩ else none
abbrev nC:List Nd:=[⟨2,[],[97],vz0,0⟩,⟨1,[],[],⟨1,0,0,[]⟩,0⟩,⟨15,[],[],vz0,0⟩]
theorem rd_C:rdx nxC vC 4 31 .ex 0 [] 0=(0,3,nC):=by
 rfl
theorem no1C (c:UInt8) (w:World) (h39:(some c==some (39:UInt8))=false) (h60:(some c==some (60:UInt8))=false) (hPR:PR (z6v [c])=none):Calls Tryz.prog 87 #[.string ⟨[c].toArray⟩] w fun e w'=>e=.returned (dpR none)∧Below w.heap.size w w' :=
 vparse_no [c] w (by simp) h39 h60 (by rw [ByteArray.toList_eq];simp) (by rw [ByteArray.toList_eq];simp) (by rw [ByteArray.toList_eq];simp) hPR
theorem pars_C (w:World) (hT:Tabs w) (hP:Ptab w):Pars w ([C1t,C2t,C3t].map tin) vC:=by
 refine ⟨rfl,fun k W hW=>?_⟩
 rw [nx_C]
 match k with
 | 0=>exact no1C 97 W (by decide) (by decide) (by decide +kernel)
 | 1=>exact no1C 62 W (by decide) (by decide) (by decide +kernel)
 | 2 =>
  have:=vparse_any [48] W (by simp) ⟨48,[],rfl,Or.inr (by decide)⟩ (hT.later hW) (hP.later hW)
  rw [dpv_0] at this
  exact this
 | k+3=>exact vparse_no [] W (by simp) rfl rfl (by rw [ByteArray.toList_eq];rfl) (by rw [ByteArray.toList_eq];rfl) (by rw [ByteArray.toList_eq];rfl) (by decide +kernel)
theorem dep_C:depN mayN nC=2:=by decide +kernel
theorem sh_C:shN nC:=by
 intro x hx
 simp at hx
 rcases hx with rfl|rfl|rfl <;> simp
theorem parse_C (w:World) (hT:Tabs w) (hP:Ptab w) (hS:Sg w) :
  Calls Tryz.prog 20 #[.string ⟨#[97,32,62,32,48]⟩] w fun e w'=>(∃ v,e=.returned (.tuple #[v,.int .i64 0])∧z1n w' w.heap.size v nC)∧Below w.heap.size w w':=by
 have:=parse6_any C0t [C1t,C2t,C3t] vC w (by simp) hT hP hS lex_C (by simp) (fun W h=>pars_C W (hT.later h) (hP.later h)) (0,3,nC) (by rw [nx_C];exact rd_C) sh_C (by simp)
 refine this.mono fun e w' ⟨h,hb⟩=>⟨?_,hb⟩
 unfold parseP at h
 rw [if_pos rfl,if_pos (by rw [dep_C];decide),if_neg (by simp)] at h
 exact h
end Go.Proofs.YtljkonkfeiojnaaGreatDoor

namespace Go.Proofs.YtljkonkfeiojnaaGreatDoor
open Go.ChangeShapes Go.WideShapes Go.ChangeAt Go.WideMaps Go.WideElems Go.RowKit Go.Shelf Go.Lib
theorem sag_b:joinedFacts Tryz.pinned.checked.prog 3 Tryz.f3 Rows.schemaAgainSpec Rows.schemaAgainRow=true:=by kernel_rfl
end Go.Proofs.YtljkonkfeiojnaaGreatDoor
