/-
  The listed table of powers as the walks ask for it.
  The contracts of the document's Right and Same.
  The contracts of the law's Own and Same, and of datum.Rows.
  Lists of values that come in.
  Truth on both sides, and the walk of DatumTruths.
  datum.Same and datum.Row; the document's cmp, class, first and Row.
  The contracts of what datum.appendKey calls: appendWord, appendText, appendCoordinate, appendUnits.
  The contracts of datum.appendKey and datum.Key.
-/
import Derived.Test.YtljkonkfeiojnaaGreatDoorMzVCmp
import Derived.Test.YtljkonkfeiojnaaGreatDoorVCmp2
import Derived.Test.YtljkonkfeiojnaaGreatDoorMdVKeyM
import Derived.Test.YtljkonkfeiojnaaGreatDoorMaLJumps
import Derived.Deep.RegionHeld2
import Derived.Deep.RegionHeld3
import Derived.Deep.AppendLies
set_option maxHeartbeats 4000000
set_option maxRecDepth 100000
namespace Go.Proofs.YtljkonkfeiojnaaGreatDoor
open Go.ChangeShapes Go.WideShapes Go.ChangeAt Go.WideMaps Go.WideElems Go.RowKit Go.Shelf Go.Lib
def powN:List Int:=[1,10,100,1000,10000,100000,1000000,10000000,100000000,1000000000,10000000000,100000000000,1000000000000]
theorem pow_cells:∀ k:Nat,k<13→(powN.map (Value.int .i64)).toArray[k]?=some (.int .i64 ((10^k:Nat):Int)):=by
 intro k hk
 match k,hk with
 | 0,_=>rfl
 | 1,_=>rfl
 | 2,_=>rfl
 | 3,_=>rfl
 | 4,_=>rfl
 | 5,_=>rfl
 | 6,_=>rfl
 | 7,_=>rfl
 | 8,_=>rfl
 | 9,_=>rfl
 | 10,_=>rfl
 | 11,_=>rfl
 | 12,_=>rfl
theorem pw_of {W:World} (h:VarReads Tryz.prog W "longstop/decimal.powers" Rows.laid_longstop_decimal_powers):Pw W:=by
 have gP:Tryz.prog.globalNamed "longstop/decimal.powers"=some 2:=by kernel_rfl
 have tP:(Tryz.prog.globals[2]?).map (·.type)=some 168:=by kernel_rfl
 have e:(Rows.laid_longstop_decimal_powers:DataW Unit)=Lib.tabData .i64 powN:=by kernel_rfl
 rw [e] at h
 obtain ⟨g,t,cs,fuel,p,hg,hty,hvar,hd⟩:=h
 obtain rfl:=Option.some.inj (gP.symm.trans hg)
 obtain rfl:=Option.some.inj (tP.symm.trans hty)
 have hcs:=Lib.cells_of_tab Tryz.underlying168 Tryz.underlying3 gK gK hd
 intro k hk
 have hc:=World.var?_cell hg hvar k
 rw [hc,← pow_cells k hk]
 have:cs=(powN.map (Value.int .i64)).toArray:=by
  rw [← Array.toArray_toList (xs:=cs),hcs]
 rw [this]
end Go.Proofs.YtljkonkfeiojnaaGreatDoor

namespace Go.Proofs.YtljkonkfeiojnaaGreatDoor
open Go.RowKit Go.Shelf
attribute [local go_sem] z0f z0b z0c z0e z0m z0k z0h z0d z0g
theorem rsame_any (k n m:Int) (b:ByteArray) (k' n' m':Int) (b':ByteArray) (w:World) :
  Calls Tryz.prog 19 #[va k n m b,va k' n' m' b'] w fun e w'=>e=.returned (.bool (k==k'&&(n==n'&&(m==m'&&b.toList==b'.toList))))∧Grew w w':=by
 go_enter Tryz.func19,Tryz.ntmps19
 go_wp2
 all_goals go_ret
 all_goals refine ⟨ret_bool ?_,gA⟩
 all_goals simp_all
theorem Tryz.info44:(Tryz.prog.info? 44).map (fun i=>(i.zero,i.size,i.bytes))=some (some (.agg #[.int .i64 0,.int .i64 0,.int .i64 0,.string ⟨#[]⟩]),4,40):=by kernel_rfl
def z4n (l:List Va):List Value:=l.flatMap fun v=>[.int .i64 v.k,.int .i64 v.n,.int .i64 v.m,.string ⟨v.b.toArray⟩]
theorem cellsV_len (l:List Va):(z4n l).length=l.length*4:=by
 induction l with
 | nil=>rfl
 | cons v l ih=>simp only [z4n,List.flatMap_cons,List.length_append,List.length_cons,List.length_nil] at *;omega
theorem cellsV_at (l:List Va) (i:Nat) (h:i<l.length):(z4n l)[i*4]?=some (.int .i64 l[i].k)∧(z4n l)[i*4+1]?=some (.int .i64 l[i].n)∧(z4n l)[i*4+2]?=some (.int .i64 l[i].m)∧(z4n l)[i*4+3]?=some (.string ⟨l[i].b.toArray⟩):=by
 induction l generalizing i with
 | nil=>simp at h
 | cons v l ih =>
  cases i with
  | zero=>exact ⟨rfl,rfl,rfl,rfl⟩
  | succ i =>
   have e:z4n (v::l)=[.int .i64 v.k,.int .i64 v.n,.int .i64 v.m,.string ⟨v.b.toArray⟩]++z4n l:=by simp [z4n]
   have hi:i<l.length:=by simpa using h
   obtain ⟨h0,h1,h2,h3⟩:=ih i hi
   rw [e]
   refine ⟨?_,?_,?_,?_⟩
   ·rw [List.getElem?_append_right (by simp;omega)];simpa [show (i+1)*4 - 4=i*4 by omega] using h0
   ·rw [List.getElem?_append_right (by simp;omega)];simpa [show (i+1)*4+1 - 4=i*4+1 by omega] using h1
   ·rw [List.getElem?_append_right (by simp;omega)];simpa [show (i+1)*4+2 - 4=i*4+2 by omega] using h2
   ·rw [List.getElem?_append_right (by simp;omega)];simpa [show (i+1)*4+3 - 4=i*4+3 by omega] using h3
theorem cellsV_one (l:List Va):∀ u∈z4n l,u.oneCell'=true:=by
 intro u hu
 simp only [z4n,List.mem_flatMap] at hu
 obtain ⟨v,_,hv⟩:=hu
 simp at hv
 rcases hv with rfl|rfl|rfl|rfl <;> rfl
theorem src_of_vs {w:World} {ao:Option Addr} {cap:Nat} {l:List Va} (h:Vs w ao l) (h0:ao=none→l=[] ):Src Tryz.prog 4 28 (.slice ao l.length cap) l.length (z4n l) w:=by
 cases ao with
 | none =>
  have:=h0 rfl
  subst this
  exact Src.ofNil w Tryz.underlying28 cap
 | some a =>
  refine Src.ofSlice w Tryz.underlying28 a l.length cap (z4n l) (cellsV_len l) (fun j u hu=>?_) (cellsV_one l)
  have hj:j<(z4n l).length:=(List.getElem?_eq_some_iff.1 hu).1
  rw [cellsV_len] at hj
  obtain ⟨b,off,hao,hc⟩:=h (by omega)
  obtain rfl:=Option.some.inj hao
  have hd:j=j / 4*4+j%4:=by omega
  obtain ⟨c0,c1,c2,c3⟩:=hc (j / 4) (by omega)
  obtain ⟨d0,d1,d2,d3⟩:=cellsV_at l (j / 4) (by omega)
  rw [Addr.add_lit]
  have hm:j%4=0∨j%4=1∨j%4=2∨j%4=3:=by omega
  rcases hm with hm|hm|hm|hm
  ·rw [show off+j=off+j / 4*4 by omega,c0]
   rw [show j=j / 4*4 by omega,d0] at hu
   exact hu
  ·rw [show off+j=off+j / 4*4+1 by omega,c1]
   rw [show j=j / 4*4+1 by omega,d1] at hu
   exact hu
  ·rw [show off+j=off+j / 4*4+2 by omega,c2]
   rw [show j=j / 4*4+2 by omega,d2] at hu
   exact hu
  ·rw [show off+j=off+j / 4*4+3 by omega,c3]
   rw [show j=j / 4*4+3 by omega,d3] at hu
   exact hu
theorem vs_of_own {w:World} {base:Nat} {v:Value} {l:List Va} (h:w.ownsRow base 44 4 v l.length (z4n l)):∃ ao cap,v=.slice ao l.length cap∧Vs w ao l:=by
 obtain ⟨h1,h2⟩:=h
 rcases h2 with ⟨rfl,hn⟩|⟨g,cap,cur,rfl,hb,hg,hnc,hcm,hcs,htake⟩
 ·have:l=[]:=List.eq_nil_of_length_eq_zero hn
  subst this
  exact ⟨none,0,rfl,fun h=>by simp at h⟩
 ·refine ⟨some ⟨g,0,none⟩,cap,rfl,fun _=>⟨g,0,rfl,fun i hi=>?_⟩⟩
  obtain ⟨d0,d1,d2,d3⟩:=cellsV_at l i hi
  rw [← htake] at d0 d1 d2 d3
  have cc:∀ j u,(cur.toList.take (l.length*4))[j]?=some u→w.cell? ⟨g,j,none⟩=some u:=by
   intro j u hu
   rw [cell_of_row w g j cur 44 (0,0) hg]
   rw [List.getElem?_take] at hu
   split at hu
   ·simpa using hu
   ·cases hu
  simp only [Nat.zero_add]
  exact ⟨cc _ _ d0,cc _ _ d1,cc _ _ d2,cc _ _ d3⟩
theorem vown_any (ao:Option Addr) (cap:Nat) (l:List Va) (w:World) (hv:Vs w ao l) (h0:ao=none→l=[]) (hl:l.length*40≤140737488351232) :
  Calls Tryz.prog 7 #[.slice ao l.length cap] w fun e w'=>∃ ao' cap',e=.returned (.slice ao' l.length cap')∧Vs w' ao' l∧Below w.heap.size w w':=by
 obtain ⟨i0,hi,hz0,hz1,hz2⟩:=info_parts Tryz.info44
 have A1:Below w.heap.size w (w.alloc (.cells #[] 44)):=(Below.refl _ _).alloc (Nat.le_refl _) _
 have hs:=src_of_vs (cap:=cap) (hv.later A1) h0
 have hmade:(w.alloc (.cells #[] 44)).ownsRow w.heap.size 44 4 (.slice (some ⟨w.heap.size,0,none⟩) 0 0) 0 []:=World.ownsRow_made w #[] 0 (Nat.le_refl _) (by decide) (by simp)
 go_enter Tryz.func7,Tryz.ntmps7
 go_wp2_with (at_builtin;refine z8c rfl (.tmp 3) (.tmp 4) 28 28 rfl w.heap.size 44 i0 (.agg #[.int .i64 0,.int .i64 0,.int .i64 0,.string ⟨#[]⟩]) 4 40 Tryz.underlying28 hi hz0 hz1 hz2 rfl _ 0 [] rfl hmade _ l.length (z4n l) rfl hs (by unfold maxLen;omega) (by omega) (by simp) ?_)
 intro v2 w2 ho2 hg2
 have B2:Below w.heap.size w w2:=A1.grown hg2 (by simp) (fun k hk=>by cases hk;exact Nat.le_refl _)
 obtain ⟨ao',cap',rfl,hv2⟩:=vs_of_own ho2
 clear ho2 hg2 hmade hs A1 hv
 go_wp2
 go_ret
 exact ⟨_,_,rfl,hv2,B2⟩
def sameV (a b:Va):Bool:=a.k==b.k&&(a.n==b.n&&(a.m==b.m&&(ByteArray.mk a.b.toArray).toList==(ByteArray.mk b.b.toArray).toList))
theorem sameV_iff (a b:Va):sameV a b=true↔a=b:=by
 obtain ⟨k,n,m,l⟩:=a
 obtain ⟨k',n',m',l'⟩:=b
 unfold sameV
 rw [Lib.toList_data,Lib.toList_data]
 simp
instance:DecidableEq Va:=fun a b=>decidable_of_iff (sameV a b=true) (sameV_iff a b)
theorem vsame_any (ao bo:Option Addr) (c d:Nat) (x y:List Va) (w:World) (hx:Vs w ao x) (hy:Vs w bo y) (lx:x.length≤9223372036854775806) (ly:y.length≤9223372036854775806) :
  Calls Tryz.prog 9 #[.slice ao x.length c,.slice bo y.length d] w fun e w'=>e=.returned (.bool (decide (x=y)))∧Below w.heap.size w w':=by
 obtain ⟨R,hR⟩:∃ R,R=decide (x=y):=⟨_,rfl⟩
 rw [← hR]
 have HR:Hid (R=decide (x=y)):=hR
 obtain ⟨n,hn⟩:∃ n,x.length=n:=⟨_,rfl⟩
 obtain ⟨m,hm⟩:∃ m,y.length=m:=⟨_,rfl⟩
 rw [hn] at lx ⊢
 rw [hm] at ly ⊢
 have HN:Hid (x.length=n):=hn
 have HM:Hid (y.length=m):=hm
 clear hn hm hR
 by_cases hnm:n=m
 ·subst hnm
  go_enter Tryz.func9,Tryz.ntmps9
  go_wp2
  go_loopw [5] (fun r wr=>∃ k:Nat,r=.int .i64 (k:Int)∧k≤n∧Below w.heap.size w wr∧Hid (∀ i (h1:i<x.length) (h2:i<y.length),i<k→x[i]=y[i])) (fun r _=>n - (intOf r).toNat)
  case atStart=>exact ⟨0,rfl,Nat.zero_le _,Below.refl _ _,fun i _ _ h=>by omega⟩
  case round =>
   obtain ⟨k,rfl,hk,hB,hA⟩:=hrel
   have sB:=hB.size
   by_cases hlt:k<n
   ·have hlt':(k:Int)<(n:Int):=by omega
    have k0:(0:Int)≤(k:Int):=by omega
    have kx:k<x.length:=by have:=HN.out;omega
    have ky:k<y.length:=by have:=HM.out;omega
    obtain ⟨b1,o1,rfl,hc1⟩:=hx (by omega)
    obtain ⟨b2,o2,rfl,hc2⟩:=hy (by omega)
    obtain ⟨c0,c1,c2,c3⟩:=(hc1 k kx).later hB
    obtain ⟨d0,d1,d2,d3⟩:=(hc2 k ky).later hB
    have g1:=((hc1 k kx).later hB).lt
    have g2:=((hc2 k ky).later hB).lt
    have Sm:∀ W,Calls Tryz.prog 19 #[vv x[k],vv y[k]] W fun e w'=>e=.returned (.bool (sameV x[k] y[k]))∧Grew W w':=fun W=>rsame_any _ _ _ _ _ _ _ _ W
    have hsi:=sameV_iff x[k] y[k]
    obtain ⟨V,hV⟩:∃ V,V=sameV x[k] y[k]:=⟨_,rfl⟩
    rw [← hV] at Sm hsi
    have HV:Hid (V=true↔x[k]=y[k]):=hsi
    obtain ⟨⟨ak,an,am,ab⟩,ha⟩:∃ v:Va,v=x[k]:=⟨_,rfl⟩
    obtain ⟨⟨bk,bn,bm,bb⟩,hb⟩:∃ v:Va,v=y[k]:=⟨_,rfl⟩
    rw [← ha] at c0 c1 c2 c3 Sm
    rw [← hb] at d0 d1 d2 d3 Sm
    simp only at c0 c1 c2 c3 d0 d1 d2 d3
    clear ha hb hc1 hc2 hV hx hy hsi
    cases V
    ·have HF:Hid (R=false):=by
      show R=false
      rw [HR.out]
      refine decide_eq_false fun h=>?_
      have:=HV.out.2 (by subst h;rfl)
      cases this
     go_upto_region 6 with fail
     go_region_held2 (fun W=>W.cell? ⟨b1,o1+k*4,none⟩=some (.int .i64 ak)∧W.cell? ⟨b1,o1+k*4+1,none⟩=some (.int .i64 an)∧W.cell? ⟨b1,o1+k*4+2,none⟩=some (.int .i64 am)∧W.cell? ⟨b1,o1+k*4+3,none⟩=some (.string ⟨ab.toArray⟩) ∧
       W.cell? ⟨b2,o2+k*4,none⟩=some (.int .i64 bk)∧W.cell? ⟨b2,o2+k*4+1,none⟩=some (.int .i64 bn)∧W.cell? ⟨b2,o2+k*4+2,none⟩=some (.int .i64 bm)∧W.cell? ⟨b2,o2+k*4+3,none⟩=some (.string ⟨bb.toArray⟩))
      (first|go_keep|(refine ⟨?_,?_,?_,?_,?_,?_,?_,?_⟩ <;> assumption))
      ((go_at_call 19;refine (Sm _).mono ?_;rintro e w2 ⟨rfl,gq⟩;have bp:Below wr.heap.size wr w2:=z0a (Below.refl _ wr).drew gq.below;obtain ⟨c0',c1',c2',c3'⟩:=At4.later (v:=⟨ak,an,am,ab⟩) ⟨c0,c1,c2,c3⟩ bp;obtain ⟨d0',d1',d2',d3'⟩:=At4.later (v:=⟨bk,bn,bm,bb⟩) ⟨d0,d1,d2,d3⟩ bp))
     go_wp2
     go_ret
     exact ⟨by rw [HF.out];rfl,z0a hB bp⟩
    ·go_upto_region 6 with fail
     go_region_held2 (fun W=>W.cell? ⟨b1,o1+k*4,none⟩=some (.int .i64 ak)∧W.cell? ⟨b1,o1+k*4+1,none⟩=some (.int .i64 an)∧W.cell? ⟨b1,o1+k*4+2,none⟩=some (.int .i64 am)∧W.cell? ⟨b1,o1+k*4+3,none⟩=some (.string ⟨ab.toArray⟩) ∧
       W.cell? ⟨b2,o2+k*4,none⟩=some (.int .i64 bk)∧W.cell? ⟨b2,o2+k*4+1,none⟩=some (.int .i64 bn)∧W.cell? ⟨b2,o2+k*4+2,none⟩=some (.int .i64 bm)∧W.cell? ⟨b2,o2+k*4+3,none⟩=some (.string ⟨bb.toArray⟩))
      (first|go_keep|(refine ⟨?_,?_,?_,?_,?_,?_,?_,?_⟩ <;> assumption))
      ((go_at_call 19;refine (Sm _).mono ?_;rintro e w2 ⟨rfl,gq⟩;have bp:Below wr.heap.size wr w2:=z0a (Below.refl _ wr).drew gq.below;obtain ⟨c0',c1',c2',c3'⟩:=At4.later (v:=⟨ak,an,am,ab⟩) ⟨c0,c1,c2,c3⟩ bp;obtain ⟨d0',d1',d2',d3'⟩:=At4.later (v:=⟨bk,bn,bm,bb⟩) ⟨d0,d1,d2,d3⟩ bp))
     go_wp2
     go_roundw
     case rel =>
      refine ⟨k+1,by go_num,by omega,z0a hB bp,fun i h1 h2 hik=>?_⟩
      by_cases h:i<k
      ·exact hA.out i h1 h2 h
      ·have:i=k:=by omega
       subst this
       exact HV.out.1 (by first|rfl|trivial)
     case measure=>simp [intOf];omega
   ·have hlt':¬ (k:Int)<(n:Int):=by omega
    have HF:Hid (R=true):=by
     show R=true
     rw [HR.out]
     refine decide_eq_true ?_
     have h1:=HN.out
     have h2:=HM.out
     exact List.ext_getElem (by omega) fun i hi1 hi2=>hA.out i hi1 hi2 (by omega)
    go_wp2
    go_ret
    exact ⟨by rw [HF.out];rfl,hB⟩
 ·have hne:((n:Int)==(m:Int))=false:=by rw [beq_eq_false_iff_ne];omega
  have HF:Hid (R=false):=by
   show R=false
   rw [HR.out]
   refine decide_eq_false fun h=>hnm ?_
   have h1:=HN.out
   have h2:=HM.out
   subst h
   omega
  go_enter Tryz.func9,Tryz.ntmps9
  go_wp2
  go_ret
  exact ⟨by rw [HF.out];rfl,Below.refl _ _⟩
end Go.Proofs.YtljkonkfeiojnaaGreatDoor

namespace Go.Proofs.YtljkonkfeiojnaaGreatDoor
open Go.ChangeShapes Go.WideShapes Go.ChangeAt Go.WideMaps Go.WideElems Go.RowKit Go.Shelf Go.Lib
theorem bytes40:Tryz.prog.bytesOf 44=40:=by kernel_rfl
theorem cells4 {W:World} {a:Addr} {c0 c1 c2 c3:Value} (h:W.cells? 0 a 4=some [c0,c1,c2,c3]):W.cell? (a.add 0)=some c0∧W.cell? (a.add 1)=some c1∧W.cell? (a.add 2)=some c2∧W.cell? (a.add 3)=some c3:=by
 unfold World.cells? at h
 rw [if_pos (Nat.zero_le _)] at h
 have e:List.range 4=[0,1,2,3]:=rfl
 rw [e] at h
 simp only [List.mapM_cons,List.mapM_nil] at h
 cases h0:W.cell? (a.add 0) with
 | none=>simp [h0] at h
 | some v0 =>
  cases h1:W.cell? (a.add 1) with
  | none=>simp [h0,h1] at h
  | some v1 =>
   cases h2:W.cell? (a.add 2) with
   | none=>simp [h0,h1,h2] at h
   | some v2 =>
    cases h3:W.cell? (a.add 3) with
    | none=>simp [h0,h1,h2,h3] at h
    | some v3 =>
     simp [h0,h1,h2,h3] at h
     obtain ⟨rfl,rfl,rfl,rfl⟩:=h
     exact ⟨rfl,rfl,rfl,rfl⟩
theorem vals_open {H:Type} {enc:TypeId × Value→H} {W:World} {a:Option Addr} {len cap fuel:Nat} {cs:List Value} {x:DataW H × List MemPlace}
  (hf:DataW.trod enc Tryz.prog W 0 (fun _=>true) true fuel 28 cs=some x) (hcs:cs=[.slice a len cap]) :
  ∃ l:List Va,(Vs W a l∧(a=none→l=[])∧l.length=len∧len≤cap∧∀ v∈l,vin v)∧(cap=0∨∃ es sp,x.1=.slice es sp∧es.length+sp.length=cap):=by
 subst hcs
 have hc4:Tryz.prog.cellsOf 44=4:=by kernel_rfl
 rcases Go.Deep.open_slice Tryz.underlying28 hf with ⟨hcs,_⟩|⟨y,l,c,m,n,D,Pl,hcs,_,hl,hm,hmm,hx,hel⟩
 ·simp at hcs
  obtain ⟨rfl,rfl,rfl⟩:=hcs
  exact ⟨[],⟨fun h=>by simp at h,fun _=>rfl,rfl,Nat.le_refl _,fun v h=>by simp at h⟩,.inl rfl⟩
 ·simp at hcs
  obtain ⟨rfl,rfl,rfl⟩:=hcs
  have hmc:m=cap:=by simpa using hmm
  rw [hc4] at hel
  have ex:∀ i,i<len→∃ v:Va,W.cells? 0 (y.add (i*4)) 4=some [.int .i64 v.k,.int .i64 v.n,.int .i64 v.m,.string ⟨v.b.toArray⟩]∧vin v:=by
   intro i hi
   obtain ⟨cs',h1,h2⟩:=hel i (by omega)
   obtain ⟨v,rfl,hv,_,_⟩:=val_cells h2
   exact ⟨v,h1,hv⟩
  let f:Nat→Va:=fun i=>if h:i<len then (ex i h).choose else ⟨0,0,0,[]⟩
  have hf:∀ i (h:i<len),W.cells? 0 (y.add (i*4)) 4=some [.int .i64 (f i).k,.int .i64 (f i).n,.int .i64 (f i).m,.string ⟨(f i).b.toArray⟩]∧vin (f i):=by
   intro i h
   have:f i=(ex i h).choose:=dif_pos h
   rw [this]
   exact (ex i h).choose_spec
  refine ⟨(List.range len).map f,⟨?_,(fun h=>by cases h),by simp,by omega,?_⟩,.inr ⟨_,_,by rw [hx],by simp;omega⟩⟩
  ·intro hp
   simp only [List.length_map,List.length_range] at hp
   obtain ⟨b,off,spot⟩:=y
   have h0:=cells4 (hf 0 hp).1
   have hspot:spot=none:=by simpa [Addr.add] using World.cell?_spot h0.1
   subst hspot
   refine ⟨b,off,rfl,fun i hi=>?_⟩
   simp only [List.length_map,List.length_range] at hi
   obtain ⟨g0,g1,g2,g3⟩:=cells4 (hf i hi).1
   simp only [Addr.add_lit] at g0 g1 g2 g3
   simp only [List.getElem_map,List.getElem_range]
   exact ⟨g0,g1,g2,g3⟩
  ·intro v hv
   simp only [List.mem_map,List.mem_range] at hv
   obtain ⟨i,hi,rfl⟩:=hv
   exact (hf i hi).2
end Go.Proofs.YtljkonkfeiojnaaGreatDoor

namespace Go.Proofs.YtljkonkfeiojnaaGreatDoor
open Go.RowKit Go.Shelf
attribute [local go_sem] z0f z0b z0c z0e z0m z0k z0h z0d z0g
def eqv (k n m:Int) (b:ByteArray) (k' n' m':Int) (b':ByteArray):Bool:=k==k'&&(n==n'&&(m==m'&&b.toList==b'.toList))
theorem eqVb (k n m k' n' m':Int) (b b':ByteArray) (w:World):(Op.equalIn 10000 44 (va k n m b) (va k' n' m' b')).run Tryz.prog w=.ok (eqv k n m b k' n' m' b') w:=eqVa k n m k' n' m' b b' w
attribute [local go_sem high] eqVb
def truN (k n m:Int) (b:ByteArray):Int:=if vrt k n m b=true∧k=4 then n else 2
def truB (k n m:Int) (b:ByteArray):Bool:=vrt k n m b&&(k==0 || k==4)
theorem tru_cases (k n m:Int) (b:ByteArray) :
  (eqv k n m b 0 0 0 ⟨#[]⟩=true→truN k n m b=2∧truB k n m b=true) ∧
  (eqv k n m b 4 1 0 ⟨#[]⟩=true→truN k n m b=1∧truB k n m b=true) ∧
  (eqv k n m b 4 0 0 ⟨#[]⟩=true→truN k n m b=0∧truB k n m b=true) ∧
  (eqv k n m b 0 0 0 ⟨#[]⟩=false→eqv k n m b 4 1 0 ⟨#[]⟩=false→eqv k n m b 4 0 0 ⟨#[]⟩=false→truN k n m b=2∧truB k n m b=false):=by
 unfold eqv
 rw [z7a]
 unfold truN truB vrt vft
 generalize b.data.toList=l
 refine ⟨?_,?_,?_,?_⟩
 ·intro h
  simp only [Bool.and_eq_true,beq_iff_eq] at h
  obtain ⟨rfl,rfl,rfl,rfl⟩:=h
  simp
 ·intro h
  simp only [Bool.and_eq_true,beq_iff_eq] at h
  obtain ⟨rfl,rfl,rfl,rfl⟩:=h
  simp
 ·intro h
  simp only [Bool.and_eq_true,beq_iff_eq] at h
  obtain ⟨rfl,rfl,rfl,rfl⟩:=h
  simp
 ·intro h1 h2 h3
  by_cases h0:k=0
  ·subst h0
   simp at h1 ⊢
   intro a b c
   exact h1 a b c
  ·by_cases h4:k=4
   ·subst h4
    simp at h2 h3
    simp
    by_cases hm:m=0∧l=[]
    ·obtain ⟨rfl,rfl⟩:=hm
     simp at h2 h3 ⊢
     exact ⟨fun h=>by omega,h3,h2⟩
    ·simp only [not_and] at hm
     constructor
     ·intro h g;exact absurd g (hm h)
     ·intro h g;exact absurd g (hm h)
   ·simp [h0,h4]
theorem z8b (k n m:Int) (b:ByteArray) (w:World) :
  Calls Tryz.prog 39 #[va k n m b] w fun e w'=>e=.returned (.tuple #[.int .i64 (truN k n m b),.bool (truB k n m b)])∧Grew w w':=by
 obtain ⟨t1,t2,t3,t4⟩:=tru_cases k n m b
 have O2:∀ W,Calls Tryz.prog 63 #[.int .i64 2] W fun e w'=>e=.returned (va 0 0 0 ⟨#[]⟩)∧Grew W w':=fun W=>of_any 2 W
 have O1:∀ W,Calls Tryz.prog 63 #[.int .i64 1] W fun e w'=>e=.returned (va 4 1 0 ⟨#[]⟩)∧Grew W w':=fun W=>of_any 1 W
 have O0:∀ W,Calls Tryz.prog 63 #[.int .i64 0] W fun e w'=>e=.returned (va 4 0 0 ⟨#[]⟩)∧Grew W w':=fun W=>of_any 0 W
 cases h2:eqv k n m b 0 0 0 ⟨#[]⟩
 ·cases h1:eqv k n m b 4 1 0 ⟨#[]⟩
  ·cases h0:eqv k n m b 4 0 0 ⟨#[]⟩
   ·obtain ⟨e1,e2⟩:=t4 h2 h1 h0
    rw [e1,e2]
    clear t1 t2 t3 t4 e1 e2
    go_enter Tryz.func39,Tryz.ntmps39
    go_wp2_with (first
     | (go_at_call_of 63 (Value.int IntKind.i64 2);refine (O2 _).mono ?_;rintro e w1 ⟨rfl,os1,n1,rfl⟩)
     | (go_at_call_of 63 (Value.int IntKind.i64 1);refine (O1 _).mono ?_;rintro e w1 ⟨rfl,os1,n1,rfl⟩)
     | (go_at_call_of 63 (Value.int IntKind.i64 0);refine (O0 _).mono ?_;rintro e w1 ⟨rfl,os1,n1,rfl⟩))
    all_goals go_ret2
    all_goals exact ⟨rfl,gB⟩
   ·obtain ⟨e1,e2⟩:=t3 h0
    rw [e1,e2]
    clear t1 t2 t3 t4 e1 e2
    go_enter Tryz.func39,Tryz.ntmps39
    go_wp2_with (first
     | (go_at_call_of 63 (Value.int IntKind.i64 2);refine (O2 _).mono ?_;rintro e w1 ⟨rfl,os1,n1,rfl⟩)
     | (go_at_call_of 63 (Value.int IntKind.i64 1);refine (O1 _).mono ?_;rintro e w1 ⟨rfl,os1,n1,rfl⟩)
     | (go_at_call_of 63 (Value.int IntKind.i64 0);refine (O0 _).mono ?_;rintro e w1 ⟨rfl,os1,n1,rfl⟩))
    all_goals go_ret2
    all_goals exact ⟨rfl,gB⟩
  ·obtain ⟨e1,e2⟩:=t2 h1
   rw [e1,e2]
   clear t1 t2 t3 t4 e1 e2
   go_enter Tryz.func39,Tryz.ntmps39
   go_wp2_with (first
    | (go_at_call_of 63 (Value.int IntKind.i64 2);refine (O2 _).mono ?_;rintro e w1 ⟨rfl,os1,n1,rfl⟩)
    | (go_at_call_of 63 (Value.int IntKind.i64 1);refine (O1 _).mono ?_;rintro e w1 ⟨rfl,os1,n1,rfl⟩)
    | (go_at_call_of 63 (Value.int IntKind.i64 0);refine (O0 _).mono ?_;rintro e w1 ⟨rfl,os1,n1,rfl⟩))
   all_goals go_ret2
   all_goals exact ⟨rfl,gB⟩
 ·obtain ⟨e1,e2⟩:=t1 h2
  rw [e1,e2]
  clear t1 t2 t3 t4 e1 e2
  go_enter Tryz.func39,Tryz.ntmps39
  go_wp2_with (first
   | (go_at_call_of 63 (Value.int IntKind.i64 2);refine (O2 _).mono ?_;rintro e w1 ⟨rfl,os1,n1,rfl⟩)
   | (go_at_call_of 63 (Value.int IntKind.i64 1);refine (O1 _).mono ?_;rintro e w1 ⟨rfl,os1,n1,rfl⟩)
   | (go_at_call_of 63 (Value.int IntKind.i64 0);refine (O0 _).mono ?_;rintro e w1 ⟨rfl,os1,n1,rfl⟩))
  all_goals go_ret2
  all_goals exact ⟨rfl,gB⟩
end Go.Proofs.YtljkonkfeiojnaaGreatDoor

namespace Go.Proofs.YtljkonkfeiojnaaGreatDoor
open Go.RowKit Go.Shelf
attribute [local go_sem] z0f z0b z0c z0e z0m z0k z0h z0d z0g
theorem eqVs (k n m k' n' m':Int) (b b':ByteArray) (w:World):(Op.equalIn 10000 44 (va k n m b) (va k' n' m' b')).run Tryz.prog w=.ok (sameV ⟨k,n,m,b.data.toList⟩ ⟨k',n',m',b'.data.toList⟩) w:=eqVa k n m k' n' m' b b' w
attribute [local go_sem high] eqVs
theorem row_any (ao:Option Addr) (cap:Nat) (l:List Va) (w:World) (hT:Tabs w) (hv:Vs w ao l) (hl:l.length≤9223372036854775807) :
  Calls Tryz.prog 15 #[.slice ao l.length cap] w fun e w'=>e=.returned (.bool (ckE l==0))∧Below w.heap.size w w':=by
 have C:=checked_any ao cap l w hT hv hl
 generalize ckE l=E at *
 generalize l.length=n at *
 go_enter Tryz.func15,Tryz.ntmps15
 go_wp2_with fail
 refine C.mono ?_
 rintro e w1 ⟨rfl,b1⟩
 go_wp2
 all_goals go_ret
 all_goals exact ⟨rfl,b1⟩
end Go.Proofs.YtljkonkfeiojnaaGreatDoor

namespace Go.Proofs.YtljkonkfeiojnaaGreatDoor
open Go.RowKit
attribute [local go_sem] z0f z0b z0c z0e z0m z0k z0h z0d z0g
def Kp (w w':World):Prop:=∀ k v,Box w k v→Box w' k v
theorem Kp.refl (w:World):Kp w w:=fun _ _ h=>h
theorem Kp.trans {a b c:World} (h:Kp a b) (k:Kp b c):Kp a c:=fun p v hb=>k p v (h p v hb)
theorem Kp.push {a w w':World} {base:Nat} {x:Value} {bs:List UInt8} {o:Obj} (h:Kp a w) (ho:Own w base x bs) (hg:(w.alloc o).grownBy w' x.ownBlock):Kp a w' :=
 fun p v hb=>((h p v hb).later ((Below.refl _ _).alloc (Nat.le_refl _) _)).kept (World.ownsRow.alloc ho _) hg
theorem own_two {w:World} {base n:Nat} {v:Value} {bs:List UInt8} {b c:UInt8} (h:w.ownsRow base 5 1 v n (bv bs++[Value.int .u8 (b.toNat:Int),Value.int .u8 (c.toNat:Int)])):Own w base v (bs++[b,c]) :=
 own_of (bs:=bs++[b,c]) (by rw [bv_append];exact h)
theorem byte_of (n q:Nat):(n:Int) / 2^q%256=((UInt8.ofNat (n / 2^q%256)).toNat:Int):=by
 have:(UInt8.ofNat (n / 2^q%256)).toNat=n / 2^q%256:=UInt8.toNat_ofNat_of_lt' (Nat.mod_lt _ (by decide))
 rw [this]
 simp
theorem pow6 (j:Nat) (h:j≤6):10^j≤1000000:=by
 have:=Nat.pow_le_pow_right (show 0<10 by decide) h
 simpa using this
theorem xor63 (x:Nat) (h:x<18446744073709551616):bits BinOp.xor IntKind.u64 (x:Int) 9223372036854775808=(((x+2^63)%2^64:Nat):Int):=by
 have e:x ^^^ 9223372036854775808=(x+2^63)%2^64:=by
  have h1:(x ^^^ 9223372036854775808)%2^63=x%2^63:=by rw [Nat.xor_mod_two_pow];simp
  have h2:(x ^^^ 9223372036854775808) / 2^63=(x / 2^63) ^^^ 1:=by rw [Nat.xor_div_two_pow]
  have h3:=Nat.div_add_mod (x ^^^ 9223372036854775808) (2^63)
  have h4:x / 2^63=0∨x / 2^63=1:=by omega
  rcases h4 with h4|h4
  ·rw [h4] at h2;simp at h2;omega
  ·rw [h4] at h2;simp at h2;omega
 rw [show (9223372036854775808:Int)=((9223372036854775808:Nat):Int) from rfl,u64_xor_nat _ _ h (by decide),e]
theorem z2y (x:Value) (bs:List UInt8) (n s:Nat) (base:Nat) (w:World) (hown:Own w base x bs) (hb:base≤w.heap.size) (hl:bs.length≤1000000) (_hn:n<18446744073709551616) (hs1:1≤s) (hs:s≤8) :
  Calls Tryz.prog 132 #[x,.int .u64 (n:Int),.int .i64 (s:Int)] w fun e w'=>∃ v',e=.returned v'∧Own w' base v' (bs++bigE s n)∧Below base w w'∧Kp w w':=by
 obtain ⟨i0,hi,hz0,hz1,hz2⟩:=info_parts Tryz.info5
 have hlen:=z4u s n
 have e1:wrap64 (8*wrap64 ((s:Int) - 1))=8*((s:Int) - 1):=by simp only [wrap64];omega
 go_enter Tryz.func132,Tryz.ntmps132
 go_wp2
 go_loopw [0,7] (fun v r wr=>∃ j:Nat,j≤s∧r=.int .i64 (8*((s:Int) - 1 - (j:Int)))∧Own wr base v (bs++(bigE s n).take j)∧Below base w wr∧Kp w wr) (fun _ r _=>(intOf r+8).toNat)
 case atStart=>exact ⟨0,Nat.zero_le _,by first|(rw [e1];congr 1;omega)|(congr 1;omega),by simpa using hown,Below.refl _ _,Kp.refl _⟩
 case round =>
  obtain ⟨j,hj,rfl,ho,hB,hK⟩:=hrel
  have sB:=hB.size
  by_cases hlt:j<s
  ·obtain ⟨q,hq⟩:∃ q:Nat,q=8*(s - 1 - j):=⟨_,rfl⟩
   have eq:8*((s:Int) - 1 - (j:Int))=(q:Int):=by omega
   rw [eq]
   have hq0:(0:Int)≤(q:Int):=by omega
   have hq64:(q:Int)<64:=by omega
   have hget:=bigE_get s n j hlt
   have hpow:256^(s - 1 - j)=2^q:=by rw [hq,Nat.pow_mul]
   rw [hpow] at hget
   have htk:(bigE s n).take (j+1)=(bigE s n).take j++[UInt8.ofNat (n / 2^q%256)]:=by
    rw [← hget,List.take_append_getElem]
   have hbl:(bs++(bigE s n).take j).length≤1000010:=by simp;omega
   have HT:Hid ((bigE s n).take (j+1)=(bigE s n).take j++[UInt8.ofNat (n / 2^q%256)]):=htk
   have HQ:Hid (q=8*(s - 1 - j)):=hq
   clear htk hpow hget hq eq hlen e1
   go_wp2_with (at_builtin;refine wpList_append_own _ rfl _ _ 96 rfl base 5 i0 (.int .u8 0) 1 1 Tryz.underlying96 hi hz0 hz1 hz2 rfl (by decide) _ _ _ rfl (World.ownsRow.alloc ho _) ⟨wr.heap.size,0,none⟩ 1 1 [.int .u8 ((n:Int) / 2^q%256)] rfl rfl (cell_one_new _ _ _) (z1x _ _) (by unfold maxLen;omega) (by omega) (by simp;omega) ?_)
   intro v1 w1 hown1 hgrow1 _
   have hB1:Below base w w1:=((hB.alloc (by omega) _).grown hgrow1 (by simp;omega) (fun k hk=>(World.ownsRow.lt ho k hk).1))
   have hK1:Kp w w1:=hK.push ho hgrow1
   rw [byte_of] at hown1
   have hO:=z1y hown1
   clear hown1 hgrow1 ho hB
   go_wp2
   go_roundw
   case rel =>
    refine ⟨j+1,by omega,by congr 1;have:=HQ.out;omega,by rw [HT.out,← List.append_assoc];exact hO,hB1,hK1⟩
   case measure =>
    have:=HQ.out
    simp [intOf];omega
  ·have hj':j=s:=by omega
   have hneg:8*((s:Int) - 1 - (j:Int))=-8:=by omega
   have htk:(bigE s n).take j=bigE s n:=List.take_of_length_le (by omega)
   rw [hneg]
   rw [htk] at ho
   clear htk hlen hneg e1
   go_wp2
   go_ret
   exact ⟨_,rfl,ho,hB,hK⟩
theorem appendText_any (x:Value) (bs:List UInt8) (s:ByteArray) (base:Nat) (w:World) (hown:Own w base x bs) (hb:base≤w.heap.size) (hl:bs.length≤1000000) (hs:s.size≤256) :
  Calls Tryz.prog 92 #[x,.string s] w fun e w'=>∃ v',e=.returned v'∧Own w' base v' (bs++(esc s.data.toList++[0,1]))∧Below base w w'∧Kp w w':=by
 obtain ⟨i0,hi,hz0,hz1,hz2⟩:=info_parts Tryz.info5
 have hsz:s.data.toList.length=s.size:=rfl
 go_enter Tryz.func92,Tryz.ntmps92
 go_wp2
 go_loopw [0,8] (fun v r wr=>∃ j:Nat,j≤s.size∧r=.int .i64 (j:Int)∧Own wr base v (bs++esc (s.data.toList.take j))∧Below base w wr∧Kp w wr) (fun _ r _=>s.size - (intOf r).toNat)
 case atStart=>exact ⟨0,Nat.zero_le _,rfl,by simpa [esc] using hown,Below.refl _ _,Kp.refl _⟩
 case round =>
  obtain ⟨j,hj,rfl,ho,hB,hK⟩:=hrel
  have sB:=hB.size
  have hel:=esc_len (s.data.toList.take j)
  have htl:(s.data.toList.take j).length=j:=by simp;omega
  obtain ⟨E,hE⟩:∃ E,E=bs++esc (s.data.toList.take j):=⟨_,rfl⟩
  have hEl:E.length≤1000600:=by rw [hE];simp;omega
  rw [← hE] at ho
  by_cases hlt:j<s.size
  ·have j0:(0:Int)≤(j:Int):=by omega
   have j1:(j:Int)<(s.size:Int):=by omega
   have het:=esc_take s.data.toList j (by omega)
   obtain ⟨c,hc0⟩:∃ c,c=s.data.toList[j]'(by omega):=⟨_,rfl⟩
   rw [← hc0] at het
   have hc:∀ h,s[j]'h=c:=fun h=>by rw [hc0];rfl
   by_cases hz:c=0
   ·have HT:Hid (bs++esc (s.data.toList.take (j+1))=E++[0]++[255]):=by
     show _=_
     rw [het,if_pos hz,hE];simp
    subst hz
    clear het hc0 hE hel htl hsz
    go_wp2_with (at_builtin;refine wpList_append_own _ rfl _ _ 96 rfl base 5 i0 (.int .u8 0) 1 1 Tryz.underlying96 hi hz0 hz1 hz2 rfl (by decide) _ _ _ rfl (World.ownsRow.alloc ho _) ⟨wr.heap.size,0,none⟩ 1 1 [.int .u8 0] rfl rfl (cell_one_new _ _ _) (z1x _ _) (by unfold maxLen;omega) (by omega) (by simp;omega) ?_)
    intro v1 w1 hown1 hgrow1 _
    have hB1:Below base w w1:=((hB.alloc (by omega) _).grown hgrow1 (by simp;omega) (fun k hk=>(World.ownsRow.lt ho k hk).1))
    have hK1:Kp w w1:=hK.push ho hgrow1
    have hO:=z1y (b:=0) hown1
    have s1:=hB1.size
    have hl1:(E++[0]).length≤1000601:=by simp;omega
    clear hown1 hgrow1 ho hB
    go_wp2_with (at_builtin;refine wpList_append_own _ rfl _ _ 96 rfl base 5 i0 (.int .u8 0) 1 1 Tryz.underlying96 hi hz0 hz1 hz2 rfl (by decide) _ _ _ rfl (World.ownsRow.alloc hO _) ⟨w1.heap.size,0,none⟩ 1 1 [.int .u8 255] rfl rfl (cell_one_new _ _ _) (z1x _ _) (by unfold maxLen;omega) (by omega) (by simp;omega) ?_)
    intro v2 w2 hown2 hgrow2 _
    have hB2:Below base w w2:=((hB1.alloc (by omega) _).grown hgrow2 (by simp;omega) (fun k hk=>(World.ownsRow.lt hO k hk).1))
    have hK2:Kp w w2:=hK1.push hO hgrow2
    have hO2:=z1y (b:=255) hown2
    clear hown2 hgrow2 hO hB1
    go_wp2
    go_roundw
    case rel=>exact ⟨j+1,by omega,by go_num,by rw [HT.out];exact hO2,hB2,hK2⟩
    case measure=>simp [intOf];omega
   ·have hz':((c.toNat:Int)==0)=false:=by
     have:c.toNat≠0:=fun h=>hz (UInt8.toNat_inj.1 h)
     rw [beq_eq_false_iff_ne];omega
    have HT:Hid (bs++esc (s.data.toList.take (j+1))=E++[c]):=by
     show _=_
     rw [het,if_neg hz,hE];simp
    clear het hc0 hE hel htl hsz hz
    go_wp2_with (at_builtin;refine wpList_append_own _ rfl _ _ 96 rfl base 5 i0 (.int .u8 0) 1 1 Tryz.underlying96 hi hz0 hz1 hz2 rfl (by decide) _ _ _ rfl (World.ownsRow.alloc ho _) ⟨wr.heap.size,0,none⟩ 1 1 [.int .u8 (c.toNat:Int)] rfl rfl (cell_one_new _ _ _) (z1x _ _) (by unfold maxLen;omega) (by omega) (by simp;omega) ?_)
    intro v1 w1 hown1 hgrow1 _
    have hB1:Below base w w1:=((hB.alloc (by omega) _).grown hgrow1 (by simp;omega) (fun k hk=>(World.ownsRow.lt ho k hk).1))
    have hK1:Kp w w1:=hK.push ho hgrow1
    have hO:=z1y hown1
    clear hown1 hgrow1 ho hB
    go_wp2
    go_roundw
    case rel=>exact ⟨j+1,by omega,by go_num,by rw [HT.out];exact hO,hB1,hK1⟩
    case measure=>simp [intOf];omega
  ·have j1:¬ (j:Int)<(s.size:Int):=by omega
   have htk:s.data.toList.take j=s.data.toList:=List.take_of_length_le (by omega)
   rw [htk] at hE
   have HT:Hid (bs++(esc s.data.toList++[0,1])=E++[0,1]):=by
    show _=_
    rw [hE];simp
   clear htk hE hel htl hsz
   go_wp2_with (at_builtin;refine wpList_append_own _ rfl _ _ 96 rfl base 5 i0 (.int .u8 0) 1 1 Tryz.underlying96 hi hz0 hz1 hz2 rfl (by decide) _ _ _ rfl (World.ownsRow.alloc ho _) ⟨wr.heap.size,0,none⟩ 2 2 [.int .u8 0,.int .u8 1] rfl rfl (cell_two_new _ _ _ _) (fun x hx=>by simp at hx;rcases hx with rfl|rfl <;> rfl) (by unfold maxLen;omega) (by omega) (by simp;omega) ?_)
   intro v1 w1 hown1 hgrow1 _
   have hB1:Below base w w1:=((hB.alloc (by omega) _).grown hgrow1 (by simp;omega) (fun k hk=>(World.ownsRow.lt ho k hk).1))
   have hK1:Kp w w1:=hK.push ho hgrow1
   have hO:=own_two (b:=0) (c:=1) hown1
   clear hown1 hgrow1 ho hB
   go_wp2
   go_ret
   exact ⟨_,rfl,by rw [HT.out];exact hO,hB1,hK1⟩
theorem z6b (x:Value) (bs:List UInt8) (n:Int) (base:Nat) (w:World) (hown:Own w base x bs) (hb:base≤w.heap.size) (hl:bs.length≤1000000) (h0:-1048576≤n) (h1:n≤1048576) :
  Calls Tryz.prog 93 #[x,.int .i64 n] w fun e w'=>∃ v',e=.returned v'∧Own w' base v' (bs++bigE 4 (n+2^31).toNat)∧Below base w w'∧Kp w w':=by
 obtain ⟨q,hq⟩:∃ q:Nat,q=(n+2^31).toNat:=⟨_,rfl⟩
 have e1:n+2147483648=(q:Int):=by omega
 rw [← hq]
 have A:=z2y x bs q 4 base w hown hb hl (by omega) (by decide) (by decide)
 have q1:(q:Int)<18446744073709551616:=by omega
 have q0:(0:Int)≤(q:Int):=by omega
 have n1:n+2147483648≤9223372036854775807:=by omega
 have n0:-9223372036854775808≤n+2147483648:=by omega
 clear hq
 go_enter Tryz.func93,Tryz.ntmps93
 go_wp2_with fail
 refine A.mono ?_
 rintro e w1 ⟨v1,rfl,ho1,hb1,hk1⟩
 go_wp2
 go_ret
 exact ⟨_,rfl,ho1,hb1,hk1⟩
theorem z6c (k n m:Int) (b:ByteArray) (x:Value) (bs:List UInt8) (base:Nat) (w:World) (hown:Own w base x bs) (hb:base≤w.heap.size) (hl:bs.length≤999900) (n0:-9223372036854775808≤n) (n1:n≤9223372036854775807) (m0:0≤m) (m1:m≤6) :
  Calls Tryz.prog 91 #[x,va k n m b] w fun e w'=>∃ v',e=.returned v'∧Own w' base v' (bs++bigE 16 (n*10^(6 - m).toNat+2^127).toNat)∧Below base w w'∧Kp w w':=by
 have e0:6 - m=((6 - m).toNat:Int):=by omega
 obtain ⟨p,hp⟩:∃ p,p=(6 - m).toNat:=⟨_,rfl⟩
 rw [← hp] at e0 ⊢
 have hp6:p≤6:=by omega
 obtain ⟨Z,hZ⟩:∃ Z,Z=bigE 16 (n*10^p+2^127).toNat:=⟨_,rfl⟩
 have HZ:Hid (Z=bigE 16 (n*10^p+2^127).toNat):=hZ
 rw [← hZ]
 clear hZ
 have Bw:Below base w (w.alloc (.cells #[.int .i64 k,.int .i64 n,.int .i64 m,.string b] 44)):=(Below.refl _ _).alloc hb _
 have bx:=Box.new w k n m b.data.toList
 have KA:Kp w (w.alloc (.cells #[.int .i64 k,.int .i64 n,.int .i64 m,.string b] 44)):=fun _ _ h=>h.later ((Below.refl _ _).alloc (Nat.le_refl _) _)
 have ownA:Own (w.alloc (.cells #[.int .i64 k,.int .i64 n,.int .i64 m,.string b] 44)) base x bs:=World.ownsRow.alloc hown _
 clear hp
 go_enter Tryz.func91,Tryz.ntmps91
 go_upto_region 1 with fail
 generalize hWA:w.alloc (.cells #[.int .i64 k,.int .i64 n,.int .i64 m,.string b] 44)=wA at *
 obtain ⟨c0,c1,c2,c3⟩:=bx.at4
 simp only at c0 c1 c2 c3
 clear hWA
 go_wp2
 go_loopw [5,11] (fun f r wr=>∃ j:Nat,j≤p∧r=.int .i64 (j:Int)∧f=.int .u64 ((10^j:Nat):Int)∧wr=wA) (fun _ r _=>p - (intOf r).toNat)
 case atStart=>exact ⟨0,Nat.zero_le _,rfl,rfl,rfl⟩
 case round =>
  obtain ⟨j,hj,rfl,rfl,rfl⟩:=hrel
  by_cases hlt:j<p
  ·have hlt':(j:Int)<(p:Int):=by omega
   have hF:10^j≤1000000:=pow6 j (by omega)
   obtain ⟨F,hFe⟩:∃ F,F=10^j:=⟨_,rfl⟩
   have HF:Hid (F=10^j):=hFe
   rw [← hFe] at hF ⊢
   have hF':(F:Int)*10≤10000000:=by omega
   clear hFe
   go_wp2
   go_roundw
   case rel=>exact ⟨j+1,by omega,by go_num,by rw [HF.out,Nat.pow_succ];congr 1,by first|rfl|trivial⟩
   case measure=>simp [intOf];omega
  ·have hjp:j=p:=by omega
   subst hjp
   have hF6:=pow6 j hp6
   have hF1:1≤10^j:=Nat.pow_pos (by decide)
   have hFe:(10:Int)^j=((10^j:Nat):Int):=by rw [Int.natCast_pow];rfl
   have HZ':Hid (Z=bigE 16 (n*((10^j:Nat):Int)+2^127).toNat):=by show _=_;rw [HZ.out,hFe]
   clear hFe HZ
   generalize 10^j=F at *
   by_cases hn:n<0
   ·obtain ⟨U,hU⟩:∃ U:Nat,U=(n+2^64).toNat:=⟨_,rfl⟩
    have hUi:(U:Int)=n+2^64:=by omega
    have hw:IntKind.u64.wrap n=(U:Int):=by rw [IntKind.wrap_u64];omega
    have M:=fun W=>z7s U F (by omega) (by omega) W
    have hdm:=Nat.div_add_mod (U*F) 18446744073709551616
    have hLt:=Nat.mod_lt (U*F) (show 0<18446744073709551616 by decide)
    generalize U*F / 18446744073709551616=H at *
    generalize hLd:U*F%18446744073709551616=L at *
    obtain ⟨wn,hHF⟩:=words_neg n F U H L hn hUi hF1 (by omega) (by omega) (by omega) hLt
    have hsub:IntKind.u64.wrap ((H:Int) - (F:Int))=((H+2^64 - F:Nat):Int):=by rw [IntKind.wrap_u64];omega
    obtain ⟨X,hX⟩:∃ X,X=H+2^64 - F:=⟨_,rfl⟩
    rw [← hX] at hsub wn
    have hxor:=xor63 X (by omega)
    obtain ⟨Y,hY⟩:∃ Y,Y=(X+2^63)%2^64:=⟨_,rfl⟩
    rw [← hY] at hxor wn
    have HW:Hid (bigE 8 Y++bigE 8 L=Z):=by
     show _=_
     rw [HZ'.out,wn,bigE_two Y L (by omega)]
    have hYlt:Y<18446744073709551616:=by omega
    have A:=fun W ho hb'=>z2y x bs Y 8 base W ho hb' (by omega) hYlt (by decide) (by decide)
    clear hdm wn hY hX hLd hUi hU HZ'
    go_wp2_with (first|(go_at_call 131;refine (M _).mono ?_;rintro e w' ⟨rfl,rfl⟩)|fail)
    refine (A _ ownA (by have:=Bw.size;omega)).mono ?_
    rintro e w1 ⟨v1,rfl,ho1,hb1,hk1⟩
    have s1:=hb1.size
    have sA:=Bw.size
    have hl1:(bs++bigE 8 Y).length≤1000000:=by have:=z4u 8 Y;simp;omega
    go_wp2_with fail
    refine (z2y v1 (bs++bigE 8 Y) L 8 base _ ho1 (by omega) hl1 hLt (by decide) (by decide)).mono ?_
    rintro e w2 ⟨v2,rfl,ho2,hb2,hk2⟩
    go_wp2
    go_ret
    exact ⟨_,rfl,by rw [← HW.out,← List.append_assoc];exact ho2,Bw.trans (hb1.trans hb2),KA.trans (hk1.trans hk2)⟩
   ·obtain ⟨N,rfl⟩:∃ N:Nat,n=(N:Int):=⟨n.toNat,by omega⟩
    have M:=fun W=>z7s N F (by omega) (by omega) W
    have hdm:=Nat.div_add_mod (N*F) 18446744073709551616
    have hLt:=Nat.mod_lt (N*F) (show 0<18446744073709551616 by decide)
    have hH1:N*F / 18446744073709551616<1000001:=by
     have:N*F≤9223372036854775807*1000000:=Nat.mul_le_mul (by omega) hF6
     omega
    generalize N*F / 18446744073709551616=H at *
    generalize hLd:N*F%18446744073709551616=L at *
    have wn:=words_pos N F H L (by omega)
    have hxor:=xor63 H (by omega)
    obtain ⟨Y,hY⟩:∃ Y,Y=(H+2^63)%2^64:=⟨_,rfl⟩
    have hY2:Y=H+2^63:=by omega
    rw [← hY] at hxor
    rw [← hY2] at wn
    have HW:Hid (bigE 8 Y++bigE 8 L=Z):=by
     show _=_
     rw [HZ'.out,wn,bigE_two Y L (by omega)]
    have hYlt:Y<18446744073709551616:=by omega
    have A:=fun W ho hb'=>z2y x bs Y 8 base W ho hb' (by omega) hYlt (by decide) (by decide)
    clear hdm wn hY hY2 hLd HZ' hH1
    go_wp2_with (first|(go_at_call 131;refine (M _).mono ?_;rintro e w' ⟨rfl,rfl⟩)|fail)
    refine (A _ ownA (by have:=Bw.size;omega)).mono ?_
    rintro e w1 ⟨v1,rfl,ho1,hb1,hk1⟩
    have s1:=hb1.size
    have sA:=Bw.size
    have hl1:(bs++bigE 8 Y).length≤1000000:=by have:=z4u 8 Y;simp;omega
    go_wp2_with fail
    refine (z2y v1 (bs++bigE 8 Y) L 8 base _ ho1 (by omega) hl1 hLt (by decide) (by decide)).mono ?_
    rintro e w2 ⟨v2,rfl,ho2,hb2,hk2⟩
    go_wp2
    go_ret
    exact ⟨_,rfl,by rw [← HW.out,← List.append_assoc];exact ho2,Bw.trans (hb1.trans hb2),KA.trans (hk1.trans hk2)⟩
end Go.Proofs.YtljkonkfeiojnaaGreatDoor

namespace Go.Proofs.YtljkonkfeiojnaaGreatDoor
open Go.RowKit Go.Shelf
attribute [local go_sem] z0f z0b z0c z0e z0m z0k z0h z0d z0g
theorem appendKey_0 (x:Value) (bs:List UInt8) (base:Nat)  (w:World) (hown:Own w base x bs) (hb:base≤w.heap.size) (hl:bs.length≤999000) :
  Calls Tryz.prog 68 #[x,va 0 0 0 ⟨#[]⟩] w fun e w'=>∃ v',e=.returned v'∧Own w' base v' (bs++vkey ⟨0,0,0,[]⟩)∧Below base w w':=by
 obtain ⟨i0,hi,hz0,hz1,hz2⟩:=info_parts Tryz.info5
 have boxA:=Box.new w 0 0 0 []
 have ownA:Own (w.alloc (.cells #[.int .i64 0,.int .i64 0,.int .i64 0,.string ⟨#[]⟩] 44)) base x bs:=World.ownsRow.alloc hown _
 have belA:Below base w (w.alloc (.cells #[.int .i64 0,.int .i64 0,.int .i64 0,.string ⟨#[]⟩] 44)):=(Below.refl _ _).alloc hb _
 have szA:=belA.size
 obtain ⟨Z,hZ⟩:∃ Z,Z=vkey ⟨0,0,0,[]⟩:=⟨_,rfl⟩
 have HZ:Hid (Z=vkey ⟨0,0,0,[]⟩):=hZ
 rw [← hZ]
 clear hZ
 go_enter Tryz.func68,Tryz.ntmps68
 go_upto_region 1 with fail
 generalize w.alloc (.cells #[.int .i64 0,.int .i64 0,.int .i64 0,.string ⟨#[]⟩] 44)=wA at *
 obtain ⟨c0,c1,c2,c3⟩:=boxA.at4
 simp only at c0 c1 c2 c3
 go_wp2_with (at_builtin;refine wpList_append_own _ rfl _ _ 96 rfl base 5 i0 (.int .u8 0) 1 1 Tryz.underlying96 hi hz0 hz1 hz2 rfl (by decide) _ _ _ rfl (World.ownsRow.alloc ownA _) ⟨wA.heap.size,0,none⟩ 1 1 [.int .u8 1] rfl rfl (cell_one_new _ _ _) (z1x _ _) (by unfold maxLen;omega) (by omega) (by simp;omega) ?_)
 intro v1 w1 hown1 hgrow1 _
 have bel1:Below base w w1:=((belA.alloc (by omega) _).grown hgrow1 (by simp;omega) (fun k hk=>(World.ownsRow.lt ownA k hk).1))
 have ho1:=z1y (b:=1) hown1
 have sz1:=bel1.size
 clear hown1 hgrow1
 go_wp2
 go_ret
 exact ⟨_,rfl,by rw [HZ.out];simpa [vkey] using ho1,bel1⟩
theorem appendKey_4 (x:Value) (bs:List UInt8) (base:Nat) (n:Int) (w:World) (hown:Own w base x bs) (hb:base≤w.heap.size) (hl:bs.length≤999000) (hn0:0≤n) (hn1:n≤1) :
  Calls Tryz.prog 68 #[x,va 4 n 0 ⟨#[]⟩] w fun e w'=>∃ v',e=.returned v'∧Own w' base v' (bs++vkey ⟨4,n,0,[]⟩)∧Below base w w':=by
 obtain ⟨i0,hi,hz0,hz1,hz2⟩:=info_parts Tryz.info5
 have boxA:=Box.new w 4 n 0 []
 have ownA:Own (w.alloc (.cells #[.int .i64 4,.int .i64 n,.int .i64 0,.string ⟨#[]⟩] 44)) base x bs:=World.ownsRow.alloc hown _
 have belA:Below base w (w.alloc (.cells #[.int .i64 4,.int .i64 n,.int .i64 0,.string ⟨#[]⟩] 44)):=(Below.refl _ _).alloc hb _
 have szA:=belA.size
 obtain ⟨Z,hZ⟩:∃ Z,Z=vkey ⟨4,n,0,[]⟩:=⟨_,rfl⟩
 have HZ:Hid (Z=vkey ⟨4,n,0,[]⟩):=hZ
 rw [← hZ]
 clear hZ
 have hby:n=((UInt8.ofNat n.toNat).toNat:Int):=by
  have:n=0∨n=1:=by omega
  rcases this with rfl|rfl <;> rfl
 have HB:Hid (n=((UInt8.ofNat n.toNat).toNat:Int)):=hby
 clear hby
 go_enter Tryz.func68,Tryz.ntmps68
 go_upto_region 1 with fail
 generalize w.alloc (.cells #[.int .i64 4,.int .i64 n,.int .i64 0,.string ⟨#[]⟩] 44)=wA at *
 obtain ⟨c0,c1,c2,c3⟩:=boxA.at4
 simp only at c0 c1 c2 c3
 go_wp2_with (at_builtin;refine wpList_append_own _ rfl _ _ 96 rfl base 5 i0 (.int .u8 0) 1 1 Tryz.underlying96 hi hz0 hz1 hz2 rfl (by decide) _ _ _ rfl (World.ownsRow.alloc ownA _) ⟨wA.heap.size,0,none⟩ 2 2 [.int .u8 4,.int .u8 n] rfl rfl (cell_two_new _ _ _ _) (fun x hx=>by simp at hx;rcases hx with rfl|rfl <;> rfl) (by unfold maxLen;omega) (by omega) (by simp;omega) ?_)
 intro v1 w1 hown1 hgrow1 _
 have bel1:Below base w w1:=((belA.alloc (by omega) _).grown hgrow1 (by simp;omega) (fun k hk=>(World.ownsRow.lt ownA k hk).1))
 have ho1:=own_two (b:=4) (c:=UInt8.ofNat n.toNat) (by rw [← HB.out];exact hown1)
 have sz1:=bel1.size
 clear hown1 hgrow1
 go_wp2
 go_ret
 exact ⟨_,rfl,by rw [HZ.out];simpa [vkey] using ho1,bel1⟩
theorem KpD {a w w':World} {base:Nat} {x:Value} {bs:List UInt8} {o:Obj} (h:Kp a w) (ho:Own w base x bs) (hg:(w.alloc o).drew.grownBy w' x.ownBlock):Kp a w' :=
 fun p v hb=>Box.kept (w:=(w.alloc o).drew) ((h p v hb).later ((Below.refl _ w).alloc (Nat.le_refl _) o).drew) (World.ownsRow.alloc ho _) hg
theorem appendKey_3 (x:Value) (bs:List UInt8) (base:Nat) (b:List UInt8) (w:World) (hown:Own w base x bs) (hb:base≤w.heap.size) (hl:bs.length≤999000) (hbl:b.length≤256) :
  Calls Tryz.prog 68 #[x,va 3 0 0 ⟨b.toArray⟩] w fun e w'=>∃ v',e=.returned v'∧Own w' base v' (bs++vkey ⟨3,0,0,b⟩)∧Below base w w':=by
 obtain ⟨i0,hi,hz0,hz1,hz2⟩:=info_parts Tryz.info5
 have boxA:=Box.new w 3 0 0 b
 have ownA:Own (w.alloc (.cells #[.int .i64 3,.int .i64 0,.int .i64 0,.string ⟨b.toArray⟩] 44)) base x bs:=World.ownsRow.alloc hown _
 have belA:Below base w (w.alloc (.cells #[.int .i64 3,.int .i64 0,.int .i64 0,.string ⟨b.toArray⟩] 44)):=(Below.refl _ _).alloc hb _
 have szA:=belA.size
 obtain ⟨Z,hZ⟩:∃ Z,Z=vkey ⟨3,0,0,b⟩:=⟨_,rfl⟩
 have HZ:Hid (Z=vkey ⟨3,0,0,b⟩):=hZ
 rw [← hZ]
 clear hZ
 go_enter Tryz.func68,Tryz.ntmps68
 go_upto_region 1 with fail
 generalize w.alloc (.cells #[.int .i64 3,.int .i64 0,.int .i64 0,.string ⟨b.toArray⟩] 44)=wA at *
 obtain ⟨c0,c1,c2,c3⟩:=boxA.at4
 simp only at c0 c1 c2 c3
 have bsz:(ByteArray.mk b.toArray).size≤256:=by simpa [ByteArray.size] using hbl
 have hl1:(bs++[3]).length≤1000000:=by simp;omega
 go_upto_region 7 with fail
 go_region_held3 (fun W=>W.cell? ⟨w.heap.size,3,none⟩=some (.string ⟨b.toArray⟩))
  (first|go_keep|assumption)
  ((first
   | (refine step_append_lies _ (by rfl) _ _ _ (by rfl) base 5 i0 _ 1 1 Tryz.underlying96 hi hz0 hz1 hz2 rfl (by omega) _ bs.length (bv bs) (by rfl) ((World.ownsRow.alloc ownA _).drew) ⟨wA.heap.size,0,none⟩ 1 1 [.int .u8 3] (by rfl) (by rfl) (World.news_of_block (cs:=#[.int .u8 3]) (t:=5) (fr:=(0,0)) (heap_alloc_new wA _)) (by simp [Value.oneCell']) (by omega) (by unfold maxLen;omega) (by omega) (by simp;omega) (wA.heap.size+1) (by simp) ?_;intro gg cap w1 hown1 hgrow hat hlt1;have bx1:=KpD (Kp.refl _) ownA hgrow _ _ boxA;obtain ⟨e0,e1,e2,e3⟩:=bx1.at4;simp only [Nat.zero_add] at e0 e1 e2 e3)
   | (go_at_call 92;refine (appendText_any _ (bs++[3]) ⟨b.toArray⟩ base _ (z1y (b:=3) hown1) (by have:=(World.ownsRow.lt hown1 gg rfl).1;omega) hl1 bsz).mono ?_;rintro e w2 ⟨v2,rfl,ho2,hb2,hk2⟩;have bx2:=hk2 _ _ bx1;obtain ⟨d0,d1,d2,d3⟩:=bx2.at4;simp only [Nat.zero_add] at d0 d1 d2 d3)))
 have bel1:Below base w w1:=(belA.alloc (by omega) _).drew.grown hgrow (by simp;omega) (fun k hk=>(World.ownsRow.lt ownA k hk).1)
 go_wp2
 go_ret
 exact ⟨_,rfl,by rw [HZ.out];simpa [vkey] using ho2,bel1.trans hb2⟩
theorem appendKey_5 (x:Value) (bs:List UInt8) (base:Nat) (n m:Int) (w:World) (hown:Own w base x bs) (hb:base≤w.heap.size) (hl:bs.length≤999000) (n0:-1048576≤n) (n1:n≤1048576) (m0:-1048576≤m) (m1:m≤1048576) :
  Calls Tryz.prog 68 #[x,va 5 n m ⟨#[]⟩] w fun e w'=>∃ v',e=.returned v'∧Own w' base v' (bs++vkey ⟨5,n,m,[]⟩)∧Below base w w':=by
 obtain ⟨i0,hi,hz0,hz1,hz2⟩:=info_parts Tryz.info5
 have boxA:=Box.new w 5 n m []
 have ownA:Own (w.alloc (.cells #[.int .i64 5,.int .i64 n,.int .i64 m,.string ⟨#[]⟩] 44)) base x bs:=World.ownsRow.alloc hown _
 have belA:Below base w (w.alloc (.cells #[.int .i64 5,.int .i64 n,.int .i64 m,.string ⟨#[]⟩] 44)):=(Below.refl _ _).alloc hb _
 have szA:=belA.size
 obtain ⟨Z,hZ⟩:∃ Z,Z=vkey ⟨5,n,m,[]⟩:=⟨_,rfl⟩
 have HZ:Hid (Z=vkey ⟨5,n,m,[]⟩):=hZ
 rw [← hZ]
 clear hZ
 go_enter Tryz.func68,Tryz.ntmps68
 go_upto_region 1 with fail
 generalize w.alloc (.cells #[.int .i64 5,.int .i64 n,.int .i64 m,.string ⟨#[]⟩] 44)=wA at *
 obtain ⟨c0,c1,c2,c3⟩:=boxA.at4
 simp only at c0 c1 c2 c3
 have hl1:(bs++[5]).length≤1000000:=by simp;omega
 go_upto_region 11 with fail
 go_region_held3 (fun W=>W.cell? ⟨w.heap.size,1,none⟩=some (.int .i64 n))
  (first|go_keep|assumption)
  ((first
   | (refine step_append_lies _ (by rfl) _ _ _ (by rfl) base 5 i0 _ 1 1 Tryz.underlying96 hi hz0 hz1 hz2 rfl (by omega) _ bs.length (bv bs) (by rfl) ((World.ownsRow.alloc ownA _).drew) ⟨wA.heap.size,0,none⟩ 1 1 [.int .u8 5] (by rfl) (by rfl) (World.news_of_block (cs:=#[.int .u8 5]) (t:=5) (fr:=(0,0)) (heap_alloc_new wA _)) (by simp [Value.oneCell']) (by omega) (by unfold maxLen;omega) (by omega) (by simp;omega) (wA.heap.size+1) (by simp) ?_;intro gg cap w1 hown1 hgrow hat hlt1;have bx1:=KpD (Kp.refl _) ownA hgrow _ _ boxA;obtain ⟨e0,e1,e2,e3⟩:=bx1.at4;simp only [Nat.zero_add] at e0 e1 e2 e3)
   | (go_at_call 93;refine (z6b _ (bs++[5]) n base _ (z1y (b:=5) hown1) (by have:=(World.ownsRow.lt hown1 gg rfl).1;omega) hl1 n0 n1).mono ?_;rintro e w2 ⟨v2,rfl,ho2,hb2,hk2⟩;have bx2:=hk2 _ _ bx1;obtain ⟨d0,d1,d2,d3⟩:=bx2.at4;simp only [Nat.zero_add] at d0 d1 d2 d3)))
 have bel1:Below base w w1:=(belA.alloc (by omega) _).drew.grown hgrow (by simp;omega) (fun k hk=>(World.ownsRow.lt ownA k hk).1)
 have bel2:=bel1.trans hb2
 have sz2:=bel2.size
 have hl2:(bs++([5]:List UInt8)++bigE 4 (n+2^31).toNat).length≤1000000:=by rw [List.length_append,List.length_append,z4u,List.length_singleton];omega
 go_wp2_with fail
 refine (z6b v2 _ m base _ ho2 (by omega) hl2 m0 m1).mono ?_
 rintro e w3 ⟨v3,rfl,ho3,hb3,_⟩
 go_wp2
 go_ret
 exact ⟨_,rfl,by rw [HZ.out];simpa [vkey] using ho3,bel2.trans hb3⟩
theorem appendKey_1 (x:Value) (bs:List UInt8) (base:Nat) (n m:Int) (w:World) (hown:Own w base x bs) (hb:base≤w.heap.size) (hl:bs.length≤999000) (n0:-9223372036854775808≤n) (n1:n≤9223372036854775807) (m0:0≤m) (m1:m≤6) :
  Calls Tryz.prog 68 #[x,va 1 n m ⟨#[]⟩] w fun e w'=>∃ v',e=.returned v'∧Own w' base v' (bs++vkey ⟨1,n,m,[]⟩)∧Below base w w':=by
 obtain ⟨i0,hi,hz0,hz1,hz2⟩:=info_parts Tryz.info5
 have boxA:=Box.new w 1 n m []
 have ownA:Own (w.alloc (.cells #[.int .i64 1,.int .i64 n,.int .i64 m,.string ⟨#[]⟩] 44)) base x bs:=World.ownsRow.alloc hown _
 have belA:Below base w (w.alloc (.cells #[.int .i64 1,.int .i64 n,.int .i64 m,.string ⟨#[]⟩] 44)):=(Below.refl _ _).alloc hb _
 have szA:=belA.size
 obtain ⟨Z,hZ⟩:∃ Z,Z=vkey ⟨1,n,m,[]⟩:=⟨_,rfl⟩
 have HZ:Hid (Z=vkey ⟨1,n,m,[]⟩):=hZ
 rw [← hZ]
 clear hZ
 go_enter Tryz.func68,Tryz.ntmps68
 go_upto_region 1 with fail
 generalize w.alloc (.cells #[.int .i64 1,.int .i64 n,.int .i64 m,.string ⟨#[]⟩] 44)=wA at *
 obtain ⟨c0,c1,c2,c3⟩:=boxA.at4
 simp only at c0 c1 c2 c3
 have hl1:(bs++[2]).length≤999900:=by simp;omega
 go_upto_region 4 with fail
 go_region_held3 (fun W=>W.cell? ⟨w.heap.size,0,none⟩=some (.int .i64 1)∧W.cell? ⟨w.heap.size,1,none⟩=some (.int .i64 n)∧W.cell? ⟨w.heap.size,2,none⟩=some (.int .i64 m)∧W.cell? ⟨w.heap.size,3,none⟩=some (.string ⟨#[]⟩))
  (first|go_keep|(refine ⟨?_,?_,?_,?_⟩ <;> assumption))
  ((first
   | (refine step_append_lies _ (by rfl) _ _ _ (by rfl) base 5 i0 _ 1 1 Tryz.underlying96 hi hz0 hz1 hz2 rfl (by omega) _ bs.length (bv bs) (by rfl) ((World.ownsRow.alloc ownA _).drew) ⟨wA.heap.size,0,none⟩ 1 1 [.int .u8 2] (by rfl) (by rfl) (World.news_of_block (cs:=#[.int .u8 2]) (t:=5) (fr:=(0,0)) (heap_alloc_new wA _)) (by simp [Value.oneCell']) (by omega) (by unfold maxLen;omega) (by omega) (by simp;omega) (wA.heap.size+1) (by simp) ?_;intro gg cap w1 hown1 hgrow hat hlt1;have bx1:=KpD (Kp.refl _) ownA hgrow _ _ boxA;obtain ⟨e0,e1,e2,e3⟩:=bx1.at4;simp only [Nat.zero_add] at e0 e1 e2 e3)
   | (go_at_call 91;refine (z6c 1 n m ⟨#[]⟩ _ (bs++[2]) base _ (z1y (b:=2) hown1) (by have:=(World.ownsRow.lt hown1 gg rfl).1;omega) hl1 n0 n1 m0 m1).mono ?_;rintro e w2 ⟨v2,rfl,ho2,hb2,hk2⟩;have bx2:=hk2 _ _ bx1;obtain ⟨d0,d1,d2,d3⟩:=bx2.at4;simp only [Nat.zero_add] at d0 d1 d2 d3)))
 have bel1:Below base w w1:=(belA.alloc (by omega) _).drew.grown hgrow (by simp;omega) (fun k hk=>(World.ownsRow.lt ownA k hk).1)
 have bel2:=bel1.trans hb2
 have sz2:=bel2.size
 obtain ⟨Y,hY⟩:∃ Y,Y=bs++([2]:List UInt8)++bigE 16 (n*10^(6 - m).toNat+2^127).toNat:=⟨_,rfl⟩
 have HY:Hid (Y=bs++([2]:List UInt8)++bigE 16 (n*10^(6 - m).toNat+2^127).toNat):=hY
 have hl2:Y.length≤1000000:=by rw [hY,List.length_append,List.length_append,z4u,List.length_singleton];omega
 rw [← hY] at ho2
 have HB:Hid (m=((UInt8.ofNat m.toNat).toNat:Int)):=by
  show _=_
  have:(UInt8.ofNat m.toNat).toNat=m.toNat:=UInt8.toNat_ofNat_of_lt' (by show m.toNat<256;omega)
  rw [this];omega
 clear hY
 go_wp2_with (at_builtin;refine wpList_append_own _ rfl _ _ 96 rfl base 5 i0 (.int .u8 0) 1 1 Tryz.underlying96 hi hz0 hz1 hz2 rfl (by decide) _ _ _ rfl (World.ownsRow.alloc ho2 _) ⟨w2.heap.size,0,none⟩ 2 2 [.int .u8 1,.int .u8 m] rfl rfl (cell_two_new _ _ _ _) (fun x hx=>by simp at hx;rcases hx with rfl|rfl <;> rfl) (by unfold maxLen;omega) (by omega) (by simp;omega) ?_)
 intro v3 w3 hown3 hgrow3 _
 have bel3:Below base w w3:=((bel2.alloc (by omega) _).grown hgrow3 (by simp;omega) (fun k hk=>(World.ownsRow.lt ho2 k hk).1))
 have ho3:=own_two (b:=1) (c:=UInt8.ofNat m.toNat) (by rw [← HB.out];exact hown3)
 rw [HY.out] at ho3
 clear hown3 hgrow3
 go_wp2
 go_ret
 exact ⟨_,rfl,by rw [HZ.out];simpa [vkey,at6] using ho3,bel3⟩
theorem appendKey_2 (x:Value) (bs:List UInt8) (base:Nat) (n m:Int) (w:World) (hown:Own w base x bs) (hb:base≤w.heap.size) (hl:bs.length≤999000) (n0:-9223372036854775808≤n) (n1:n≤9223372036854775807) (m0:0≤m) (m1:m≤6) :
  Calls Tryz.prog 68 #[x,va 2 n m ⟨#[]⟩] w fun e w'=>∃ v',e=.returned v'∧Own w' base v' (bs++vkey ⟨2,n,m,[]⟩)∧Below base w w':=by
 obtain ⟨i0,hi,hz0,hz1,hz2⟩:=info_parts Tryz.info5
 have boxA:=Box.new w 2 n m []
 have ownA:Own (w.alloc (.cells #[.int .i64 2,.int .i64 n,.int .i64 m,.string ⟨#[]⟩] 44)) base x bs:=World.ownsRow.alloc hown _
 have belA:Below base w (w.alloc (.cells #[.int .i64 2,.int .i64 n,.int .i64 m,.string ⟨#[]⟩] 44)):=(Below.refl _ _).alloc hb _
 have szA:=belA.size
 obtain ⟨Z,hZ⟩:∃ Z,Z=vkey ⟨2,n,m,[]⟩:=⟨_,rfl⟩
 have HZ:Hid (Z=vkey ⟨2,n,m,[]⟩):=hZ
 rw [← hZ]
 clear hZ
 go_enter Tryz.func68,Tryz.ntmps68
 go_upto_region 1 with fail
 generalize w.alloc (.cells #[.int .i64 2,.int .i64 n,.int .i64 m,.string ⟨#[]⟩] 44)=wA at *
 obtain ⟨c0,c1,c2,c3⟩:=boxA.at4
 simp only at c0 c1 c2 c3
 have hl1:(bs++[2]).length≤999900:=by simp;omega
 go_upto_region 4 with fail
 go_region_held3 (fun W=>W.cell? ⟨w.heap.size,0,none⟩=some (.int .i64 2)∧W.cell? ⟨w.heap.size,1,none⟩=some (.int .i64 n)∧W.cell? ⟨w.heap.size,2,none⟩=some (.int .i64 m)∧W.cell? ⟨w.heap.size,3,none⟩=some (.string ⟨#[]⟩))
  (first|go_keep|(refine ⟨?_,?_,?_,?_⟩ <;> assumption))
  ((first
   | (refine step_append_lies _ (by rfl) _ _ _ (by rfl) base 5 i0 _ 1 1 Tryz.underlying96 hi hz0 hz1 hz2 rfl (by omega) _ bs.length (bv bs) (by rfl) ((World.ownsRow.alloc ownA _).drew) ⟨wA.heap.size,0,none⟩ 1 1 [.int .u8 2] (by rfl) (by rfl) (World.news_of_block (cs:=#[.int .u8 2]) (t:=5) (fr:=(0,0)) (heap_alloc_new wA _)) (by simp [Value.oneCell']) (by omega) (by unfold maxLen;omega) (by omega) (by simp;omega) (wA.heap.size+1) (by simp) ?_;intro gg cap w1 hown1 hgrow hat hlt1;have bx1:=KpD (Kp.refl _) ownA hgrow _ _ boxA;obtain ⟨e0,e1,e2,e3⟩:=bx1.at4;simp only [Nat.zero_add] at e0 e1 e2 e3)
   | (go_at_call 91;refine (z6c 2 n m ⟨#[]⟩ _ (bs++[2]) base _ (z1y (b:=2) hown1) (by have:=(World.ownsRow.lt hown1 gg rfl).1;omega) hl1 n0 n1 m0 m1).mono ?_;rintro e w2 ⟨v2,rfl,ho2,hb2,hk2⟩;have bx2:=hk2 _ _ bx1;obtain ⟨d0,d1,d2,d3⟩:=bx2.at4;simp only [Nat.zero_add] at d0 d1 d2 d3)))
 have bel1:Below base w w1:=(belA.alloc (by omega) _).drew.grown hgrow (by simp;omega) (fun k hk=>(World.ownsRow.lt ownA k hk).1)
 have bel2:=bel1.trans hb2
 have sz2:=bel2.size
 obtain ⟨Y,hY⟩:∃ Y,Y=bs++([2]:List UInt8)++bigE 16 (n*10^(6 - m).toNat+2^127).toNat:=⟨_,rfl⟩
 have HY:Hid (Y=bs++([2]:List UInt8)++bigE 16 (n*10^(6 - m).toNat+2^127).toNat):=hY
 have hl2:Y.length≤1000000:=by rw [hY,List.length_append,List.length_append,z4u,List.length_singleton];omega
 rw [← hY] at ho2
 have HB:Hid (m=((UInt8.ofNat m.toNat).toNat:Int)):=by
  show _=_
  have:(UInt8.ofNat m.toNat).toNat=m.toNat:=UInt8.toNat_ofNat_of_lt' (by show m.toNat<256;omega)
  rw [this];omega
 clear hY
 go_wp2_with (at_builtin;refine wpList_append_own _ rfl _ _ 96 rfl base 5 i0 (.int .u8 0) 1 1 Tryz.underlying96 hi hz0 hz1 hz2 rfl (by decide) _ _ _ rfl (World.ownsRow.alloc ho2 _) ⟨w2.heap.size,0,none⟩ 2 2 [.int .u8 2,.int .u8 m] rfl rfl (cell_two_new _ _ _ _) (fun x hx=>by simp at hx;rcases hx with rfl|rfl <;> rfl) (by unfold maxLen;omega) (by omega) (by simp;omega) ?_)
 intro v3 w3 hown3 hgrow3 _
 have bel3:Below base w w3:=((bel2.alloc (by omega) _).grown hgrow3 (by simp;omega) (fun k hk=>(World.ownsRow.lt ho2 k hk).1))
 have ho3:=own_two (b:=2) (c:=UInt8.ofNat m.toNat) (by rw [← HB.out];exact hown3)
 rw [HY.out] at ho3
 clear hown3 hgrow3
 go_wp2
 go_ret
 exact ⟨_,rfl,by rw [HZ.out];simpa [vkey,at6] using ho3,bel3⟩
theorem appendKey_ok (v:Va) (x:Value) (bs:List UInt8) (base:Nat) (w:World) (hv:vr v=true) (hi:vin v) (hown:Own w base x bs) (hb:base≤w.heap.size) (hl:bs.length≤999000) :
  Calls Tryz.prog 68 #[x,vv v] w fun e w'=>∃ v',e=.returned v'∧Own w' base v' (bs++vkey v)∧Below base w w':=by
 have hk:=(z3u v).1 hv
 obtain ⟨k,n,m,b⟩:=v
 simp only [vok,vin] at hk hi
 rcases hk with ⟨rfl,rfl,rfl,rfl⟩|⟨rfl,rfl,rfl⟩|⟨rfl,h0,h1,rfl⟩|⟨rfl,rfl,rfl,h,_⟩|⟨rfl,h0,rfl,rfl⟩|⟨rfl,h0,h1,h2,h3,rfl⟩
 ·exact appendKey_0 x bs base w hown hb hl
 ·exact appendKey_1 x bs base n 0 w hown hb hl hi.1.1 hi.1.2 (by decide) (by decide)
 ·exact appendKey_2 x bs base n m w hown hb hl hi.1.1 hi.1.2 h0 h1
 ·exact appendKey_3 x bs base b w hown hb hl h
 ·exact appendKey_4 x bs base n w hown hb hl (by omega) (by omega)
 ·exact appendKey_5 x bs base n m w hown hb hl h0 h1 h2 h3
theorem vkey_len (v:Va) (hv:vr v=true):(vkey v).length≤520:=by
 have hk:=(z3u v).1 hv
 have he:=esc_len v.b
 have hb:v.k=3→v.b.length≤256:=by
  intro h
  simp only [vok] at hk
  rcases hk with g|g|g|g|g|g
  ·omega
  ·omega
  ·omega
  ·exact g.2.2.2.1
  ·omega
  ·omega
 unfold vkey
 split
 ·simp [z4u]
 split
 ·rename_i h;have:=hb h;simp;omega
 split
 ·simp
 split
 ·simp [z4u]
 ·simp
theorem key_good (ao:Option Addr) (cap:Nat) (l:List Va) (w:World) (hT:Tabs w) (hv:Vs w ao l) (hE:ckE l=0) (hin:∀ v∈l,vin v) :
  Calls Tryz.prog 42 #[.slice ao l.length cap] w fun e w'=>e=.returned (.tuple #[.string ⟨(rkey l).toArray⟩,.int .i64 0])∧Below w.heap.size w w':=by
 have hlen:l.length≤64:=by
  unfold ckE at hE
  split at hE
  ·omega
  ·omega
 have hall:∀ v∈l,vr v=true:=by
  unfold ckE at hE
  rw [if_neg (by omega)] at hE
  split at hE
  ·rename_i h;exact fun v hv=>List.all_eq_true.1 h v hv
  ·omega
 have C:=checked_any ao cap l w hT hv (by omega)
 rw [hE] at C
 obtain ⟨i0,hi,hz0,hz1,hz2⟩:=info_parts Tryz.info5
 obtain ⟨n,hn⟩:∃ n,l.length=n:=⟨_,rfl⟩
 rw [hn] at hlen C ⊢
 have HN:Hid (l.length=n):=hn
 have ML:∀ k,k≤n→(many vkey (l.take k)).length≤520*64:=by
  intro k hk
  have h1:=many_len vkey 520 (l.take k) (fun v hv=>vkey_len v (hall v (List.mem_of_mem_take hv)))
  have h2:(l.take k).length=k:=by simp;omega
  rw [h2] at h1
  have h3:520*k≤520*64:=Nat.mul_le_mul_left _ (by omega)
  omega
 have HM:Hid (∀ k,k≤n→(many vkey (l.take k)).length≤520*64):=ML
 clear hn hE ML
 go_enter Tryz.func42,Tryz.ntmps42
 go_wp2_with fail
 refine C.mono ?_
 rintro e w1 ⟨rfl,b1⟩
 have s1:=b1.size
 go_wp2
 go_loopw [5,15] (fun x r wr=>∃ k:Nat,r=.int .i64 (k:Int)∧k≤n∧Own wr w.heap.size x (many vkey (l.take k))∧Below w.heap.size w wr) (fun _ r _=>n - (intOf r).toNat)
 case atStart=>exact ⟨0,rfl,Nat.zero_le _,World.ownsRow_nil _ _ _ _,b1⟩
 case round =>
  obtain ⟨k,rfl,hk,ho,hB⟩:=hrel
  have sB:=hB.size
  by_cases hlt:k<n
  ·have hlt':(k:Int)<(n:Int):=by omega
   have hkl:k<l.length:=by rw [HN.out];exact hlt
   obtain ⟨b,off,rfl,hc⟩:=hv (by omega)
   obtain ⟨c0,c1,c2,c3⟩:=((hc k hkl).later hB)
   have hg:=(hc k hkl).lt
   have hg':b<wr.heap.size:=by omega
   have hML:=HM.out k (by omega)
   have hbl:(many vkey (l.take k)).length≤999000:=by omega
   have R:∀ W,Grew wr W→Calls Tryz.prog 68 #[u5,vv l[k]] W fun e w'=>∃ v',e=.returned v'∧Own w' w.heap.size v' (many vkey (l.take k)++vkey l[k])∧Below w.heap.size W w' :=
    fun W h=>appendKey_ok l[k] u5 _ w.heap.size W (hall _ (List.getElem_mem _)) (hin _ (List.getElem_mem _)) (ho.later h.below) (by have:=h.size;omega) hbl
   have hmt:=many_take vkey l k hkl
   obtain ⟨⟨vk,vn,vm,vb⟩,he⟩:∃ v:Va,v=l[k]:=⟨_,rfl⟩
   rw [← he] at c0 c1 c2 c3 R hmt
   obtain ⟨Y,hY⟩:∃ Y,Y=many vkey (l.take k)++vkey ⟨vk,vn,vm,vb⟩:=⟨_,rfl⟩
   rw [← hY] at R
   have HY:Hid (many vkey (l.take (k+1))=Y):=by
    show _=_
    rw [hY,hmt]
   clear hc he hmt hY hT hv hML hbl ho
   go_wp2_with (go_at_call 68;refine (R _ gA).mono ?_;rintro e w2 ⟨v2,rfl,ho2,hb2⟩)
   go_roundw
   case rel =>
    refine ⟨k+1,by go_num,by omega,by rw [HY.out];exact ho2,hB.trans ((Below.mono (Grew.below gA) sB).trans hb2)⟩
   case measure=>simp [intOf];omega
  ·have hlt':¬ (k:Int)<(n:Int):=by omega
   have hkn:k=n:=by omega
   have e1:l.take k=l:=List.take_of_length_le (by have:=HN.out;omega)
   rw [e1] at ho
   have hML:=HM.out k (by omega)
   rw [e1] at hML
   clear e1
   have hl2:(many vkey l).length≤33280:=hML
   obtain ⟨Y,hY⟩:∃ Y,Y=many vkey l:=⟨_,rfl⟩
   have HY:Hid (Y=many vkey l):=hY
   rw [← hY] at ho hl2
   clear hY hML hT hv
   go_wp2_with (at_builtin;refine wpList_append_own _ rfl _ _ 96 rfl w.heap.size 5 i0 (.int .u8 0) 1 1 Tryz.underlying96 hi hz0 hz1 hz2 rfl (by decide) _ _ _ rfl (World.ownsRow.alloc ho _) ⟨wr.heap.size,0,none⟩ 1 1 [.int .u8 0] rfl rfl (cell_one_new _ _ _) (z1x _ _) (by unfold maxLen;omega) (by omega) (by simp;omega) ?_)
   intro v1 w2 hown1 hgrow1 _
   have hB1:Below w.heap.size w w2:=((hB.alloc (by omega) _).grown hgrow1 (by simp;omega) (fun k hk=>(World.ownsRow.lt ho k hk).1))
   have hO:=z1y (b:=0) hown1
   obtain ⟨E,hEE⟩:∃ E,E=Y++[0]:=⟨_,rfl⟩
   have HEE:Hid (E=Y++[0]):=hEE
   rw [← hEE] at hO
   clear hown1 hgrow1 ho hB hEE
   obtain ⟨ao2,cap2,rfl,hr,_⟩:=hO.rd
   have hcv:=z5v 96 9 5 Tryz.underlying96 Tryz.underlying5 Tryz.underlying9 hr
   clear hr hO
   go_wp2
   go_ret2
   refine ⟨?_,hB1⟩
   rw [show rkey l=E by rw [HEE.out,HY.out];rfl]
   rfl
end Go.Proofs.YtljkonkfeiojnaaGreatDoor
