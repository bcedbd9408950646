/-
  The listed table of powers as the walks ask for it.
  The contracts of the document's Right and Same.
  The contracts of the law's Own and Same, and of datum.Rows.
  Lists of values that come in.
  Truth on both sides, and the walk of DatumTruths.
  datum.Same and datum.Row; the document's cmp, class, first and Row.
-/
import Derived.Test.YtibbenhplmmmiaaGreatDoorMtVCmp
import Derived.Test.YtibbenhplmmmiaaGreatDoorVCmp2
import Derived.Test.YtibbenhplmmmiaaGreatDoorMbVGood
import Derived.Test.YtibbenhplmmmiaaGreatDoorMaLJumps
import Derived.Deep.RegionHeld2
set_option maxHeartbeats 4000000
set_option maxRecDepth 100000
namespace Go.Proofs.YtibbenhplmmmiaaGreatDoor
open Go.ChangeShapes Go.WideShapes Go.ChangeAt Go.WideMaps Go.WideElems Go.RowKit Go.Shelf Go.Lib
def powN:List Int:=[1,10,100,1000,10000,100000,1000000,10000000,100000000,1000000000,10000000000,100000000000,1000000000000]
theorem pow_cells:∀ k:Nat,k<13→(powN.map (Value.int .i64)).toArray[k]?=some (.int .i64 ((10^k:Nat):Int)):=by
 intro k hk
 match k,hk with
 | 0,_=>rfl
 | 1,_=>rfl
 | 2,_=>rfl
 | 3,_=>rfl
 | 4,_=>rfl
 | 5,_=>rfl
 | 6,_=>rfl
 | 7,_=>rfl
 | 8,_=>rfl
 | 9,_=>rfl
 | 10,_=>rfl
 | 11,_=>rfl
 | 12,_=>rfl
theorem pw_of {W:World} (h:VarReads Tryz.prog W "longstop/decimal.powers" Rows.laid_longstop_decimal_powers):Pw W:=by
 have gP:Tryz.prog.globalNamed "longstop/decimal.powers"=some 2:=by kernel_rfl
 have tP:(Tryz.prog.globals[2]?).map (·.type)=some 238:=by kernel_rfl
 have e:(Rows.laid_longstop_decimal_powers:DataW Unit)=Lib.tabData .i64 powN:=by kernel_rfl
 rw [e] at h
 obtain ⟨g,t,cs,fuel,p,hg,hty,hvar,hd⟩:=h
 obtain rfl:=Option.some.inj (gP.symm.trans hg)
 obtain rfl:=Option.some.inj (tP.symm.trans hty)
 have hcs:=Lib.cells_of_tab Tryz.underlying238 Tryz.underlying3 gK gK hd
 intro k hk
 have hc:=World.var?_cell hg hvar k
 rw [hc,← pow_cells k hk]
 have:cs=(powN.map (Value.int .i64)).toArray:=by
  rw [← Array.toArray_toList (xs:=cs),hcs]
 rw [this]
end Go.Proofs.YtibbenhplmmmiaaGreatDoor

namespace Go.Proofs.YtibbenhplmmmiaaGreatDoor
open Go.RowKit Go.Shelf
attribute [local go_sem] z0e z0b z0c z0f z0m z0k z0h z0d z0g
theorem emptyE (b:ByteArray):b.toList.isEmpty=(b.data.toList==[]):=by
 rw [Lib.toList_data]
 cases b.data.toList <;> rfl
theorem rpoint_any (x y:Int) (w:World):Calls Tryz.prog 47 #[dv x y] w fun e w'=>e=.returned (.bool (ok1 x&&ok1 y))∧Grew w w':=by
 go_enter Tryz.func47,Tryz.ntmps47
 go_wp2
 all_goals go_ret
 all_goals refine ⟨z1t ?_,gA⟩
 all_goals simp_all [ok1]
 all_goals try omega
theorem rright_0 (n m:Int) (b:ByteArray) (w:World):Calls Tryz.prog 13 #[va 0 n m b] w fun e w'=>e=.returned (.bool (vrt 0 n m b))∧Below w.heap.size w w':=by
 go_enter Tryz.func13,Tryz.ntmps13
 go_wp2
 all_goals go_ret
 all_goals refine ⟨z1t ?_,Grew.below gA⟩
 all_goals simp_all [vrt,vft,emptyE]
theorem rright_1 (n m:Int) (b:ByteArray) (w:World):Calls Tryz.prog 13 #[va 1 n m b] w fun e w'=>e=.returned (.bool (vrt 1 n m b))∧Below w.heap.size w w':=by
 go_enter Tryz.func13,Tryz.ntmps13
 go_wp2
 all_goals go_ret
 all_goals refine ⟨z1t ?_,Grew.below gA⟩
 all_goals simp_all [vrt,vft,emptyE]
theorem rright_2 (n m:Int) (b:ByteArray) (w:World):Calls Tryz.prog 13 #[va 2 n m b] w fun e w'=>e=.returned (.bool (vrt 2 n m b))∧Below w.heap.size w w':=by
 go_enter Tryz.func13,Tryz.ntmps13
 go_wp2
 all_goals go_ret
 all_goals refine ⟨z1t ?_,Grew.below gA⟩
 all_goals simp [vrt,vft,emptyE,z0s]
 all_goals first|omega|(simp_all;try omega)
theorem rright_4 (n m:Int) (b:ByteArray) (w:World):Calls Tryz.prog 13 #[va 4 n m b] w fun e w'=>e=.returned (.bool (vrt 4 n m b))∧Below w.heap.size w w':=by
 go_enter Tryz.func13,Tryz.ntmps13
 go_wp2
 all_goals go_ret
 all_goals refine ⟨z1t ?_,Grew.below gA⟩
 all_goals simp_all [vrt,vft,emptyE]
theorem rright_5 (n m:Int) (b:ByteArray) (w:World):Calls Tryz.prog 13 #[va 5 n m b] w fun e w'=>e=.returned (.bool (vrt 5 n m b))∧Below w.heap.size w w':=by
 have R:=fun W=>rpoint_any n m W
 have hv:vrt 5 n m b=((ok1 n&&ok1 m)&&(b.data.toList==[])):=by simp [vrt,vft,Bool.and_comm]
 rw [hv]
 generalize (ok1 n&&ok1 m)=g at *
 clear hv
 cases g
 all_goals
  go_enter Tryz.func13,Tryz.ntmps13
  go_wp2_with (go_at_call 47;refine (R _).mono ?_;rintro e w1 ⟨rfl,os1,n1,rfl⟩)
  all_goals go_ret
  all_goals refine ⟨z1t ?_,Grew.below gA⟩
  all_goals simp [emptyE]
theorem rright_3 (n m:Int) (b:ByteArray) (w:World):Calls Tryz.prog 13 #[va 3 n m b] w fun e w'=>e=.returned (.bool (vrt 3 n m b))∧Below w.heap.size w w':=by
 by_cases hn:n=0
 ·subst hn
  by_cases hm:m=0
  ·subst hm
   by_cases hb:b.size≤256
   ·have V:=fun W=>good_any b W (by omega)
    have hv:vrt 3 0 0 b=Lib.validD b.data.toList:=by simp [vrt,vft,hb]
    rw [hv]
    have hb':(b.size:Int)≤256:=by omega
    generalize Lib.validD b.data.toList=g at *
    clear hv hb
    go_enter Tryz.func13,Tryz.ntmps13
    go_wp2_with (go_at_call 46;refine (V _).mono ?_;rintro e w1 ⟨rfl,bb1⟩)
    all_goals go_ret
    all_goals exact ⟨rfl,z0a (Grew.below gA) bb1⟩
   ·have hv:vrt 3 0 0 b=false:=by simp [vrt,vft,hb]
    rw [hv]
    have hb':¬ (b.size:Int)≤256:=by omega
    clear hv hb
    go_enter Tryz.func13,Tryz.ntmps13
    go_wp2
    all_goals go_ret
    all_goals exact ⟨rfl,Grew.below gA⟩
  ·have hv:vrt 3 0 m b=false:=by simp [vrt,hm]
   have hm':(m==0)=false:=by simpa using hm
   rw [hv]
   clear hv hm
   go_enter Tryz.func13,Tryz.ntmps13
   go_wp2
   all_goals go_ret
   all_goals exact ⟨rfl,Grew.below gA⟩
 ·have hv:vrt 3 n m b=false:=by simp [vrt,hn]
  have hn':(n==0)=false:=by simpa using hn
  rw [hv]
  clear hv hn
  go_enter Tryz.func13,Tryz.ntmps13
  go_wp2
  all_goals go_ret
  all_goals exact ⟨rfl,Grew.below gA⟩
theorem rright_o (k:Int) (n m:Int) (b:ByteArray) (w:World) (h0:k≠0) (h1:k≠1) (h2:k≠2) (h3:k≠3) (h4:k≠4) (h5:k≠5):Calls Tryz.prog 13 #[va k n m b] w fun e w'=>e=.returned (.bool (vrt k n m b))∧Below w.heap.size w w':=by
 have c0:(k==0)=false:=by simpa using h0
 have c1:(k==1)=false:=by simpa using h1
 have c2:(k==2)=false:=by simpa using h2
 have c3:(k==3)=false:=by simpa using h3
 have c4:(k==4)=false:=by simpa using h4
 have c5:(k==5)=false:=by simpa using h5
 have hv:vrt k n m b=false:=by simp [vrt,vft,h0,h1,h2,h3,h4,h5]
 rw [hv]
 clear hv
 go_enter Tryz.func13,Tryz.ntmps13
 go_wp2
 all_goals go_ret
 all_goals exact ⟨rfl,Grew.below gA⟩
theorem rright_any (k n m:Int) (b:ByteArray) (w:World):Calls Tryz.prog 13 #[va k n m b] w fun e w'=>e=.returned (.bool (vrt k n m b))∧Below w.heap.size w w':=by
 by_cases h0:k=0
 ·subst h0;exact rright_0 n m b w
 by_cases h1:k=1
 ·subst h1;exact rright_1 n m b w
 by_cases h2:k=2
 ·subst h2;exact rright_2 n m b w
 by_cases h3:k=3
 ·subst h3;exact rright_3 n m b w
 by_cases h4:k=4
 ·subst h4;exact rright_4 n m b w
 by_cases h5:k=5
 ·subst h5;exact rright_5 n m b w
 exact rright_o k n m b w h0 h1 h2 h3 h4 h5
theorem z7m (k n m:Int) (b:ByteArray) (k' n' m':Int) (b':ByteArray) (w:World) :
  Calls Tryz.prog 10 #[va k n m b,va k' n' m' b'] w fun e w'=>e=.returned (.bool (k==k'&&(n==n'&&(m==m'&&b.toList==b'.toList))))∧Grew w w':=by
 go_enter Tryz.func10,Tryz.ntmps10
 go_wp2
 all_goals go_ret
 all_goals refine ⟨z1t ?_,gA⟩
 all_goals simp_all
theorem Tryz.info23:(Tryz.prog.info? 23).map (fun i=>(i.zero,i.size,i.bytes))=some (some (.agg #[.int .i64 0,.int .i64 0,.int .i64 0,.string ⟨#[]⟩]),4,40):=by kernel_rfl
def z4e (l:List Va):List Value:=l.flatMap fun v=>[.int .i64 v.k,.int .i64 v.n,.int .i64 v.m,.string ⟨v.b.toArray⟩]
theorem cellsV_len (l:List Va):(z4e l).length=l.length*4:=by
 induction l with
 | nil=>rfl
 | cons v l ih=>simp only [z4e,List.flatMap_cons,List.length_append,List.length_cons,List.length_nil] at *;omega
theorem cellsV_at (l:List Va) (i:Nat) (h:i<l.length):(z4e l)[i*4]?=some (.int .i64 l[i].k)∧(z4e l)[i*4+1]?=some (.int .i64 l[i].n)∧(z4e l)[i*4+2]?=some (.int .i64 l[i].m)∧(z4e l)[i*4+3]?=some (.string ⟨l[i].b.toArray⟩):=by
 induction l generalizing i with
 | nil=>simp at h
 | cons v l ih =>
  cases i with
  | zero=>exact ⟨rfl,rfl,rfl,rfl⟩
  | succ i =>
   have e:z4e (v::l)=[.int .i64 v.k,.int .i64 v.n,.int .i64 v.m,.string ⟨v.b.toArray⟩]++z4e l:=by simp [z4e]
   have hi:i<l.length:=by simpa using h
   obtain ⟨h0,h1,h2,h3⟩:=ih i hi
   rw [e]
   refine ⟨?_,?_,?_,?_⟩
   ·rw [List.getElem?_append_right (by simp;omega)];simpa [show (i+1)*4 - 4=i*4 by omega] using h0
   ·rw [List.getElem?_append_right (by simp;omega)];simpa [show (i+1)*4+1 - 4=i*4+1 by omega] using h1
   ·rw [List.getElem?_append_right (by simp;omega)];simpa [show (i+1)*4+2 - 4=i*4+2 by omega] using h2
   ·rw [List.getElem?_append_right (by simp;omega)];simpa [show (i+1)*4+3 - 4=i*4+3 by omega] using h3
theorem cellsV_one (l:List Va):∀ u∈z4e l,u.oneCell'=true:=by
 intro u hu
 simp only [z4e,List.mem_flatMap] at hu
 obtain ⟨v,_,hv⟩:=hu
 simp at hv
 rcases hv with rfl|rfl|rfl|rfl <;> rfl
theorem src_of_vs {w:World} {ao:Option Addr} {cap:Nat} {l:List Va} (h:Vs w ao l) (h0:ao=none→l=[] ):Src Tryz.prog 4 34 (.slice ao l.length cap) l.length (z4e l) w:=by
 cases ao with
 | none =>
  have:=h0 rfl
  subst this
  exact Src.ofNil w Tryz.underlying34 cap
 | some a =>
  refine Src.ofSlice w Tryz.underlying34 a l.length cap (z4e l) (cellsV_len l) (fun j u hu=>?_) (cellsV_one l)
  have hj:j<(z4e l).length:=(List.getElem?_eq_some_iff.1 hu).1
  rw [cellsV_len] at hj
  obtain ⟨b,off,hao,hc⟩:=h (by omega)
  obtain rfl:=Option.some.inj hao
  have hd:j=j / 4*4+j%4:=by omega
  obtain ⟨c0,c1,c2,c3⟩:=hc (j / 4) (by omega)
  obtain ⟨d0,d1,d2,d3⟩:=cellsV_at l (j / 4) (by omega)
  rw [Addr.add_lit]
  have hm:j%4=0∨j%4=1∨j%4=2∨j%4=3:=by omega
  rcases hm with hm|hm|hm|hm
  ·rw [show off+j=off+j / 4*4 by omega,c0]
   rw [show j=j / 4*4 by omega,d0] at hu
   exact hu
  ·rw [show off+j=off+j / 4*4+1 by omega,c1]
   rw [show j=j / 4*4+1 by omega,d1] at hu
   exact hu
  ·rw [show off+j=off+j / 4*4+2 by omega,c2]
   rw [show j=j / 4*4+2 by omega,d2] at hu
   exact hu
  ·rw [show off+j=off+j / 4*4+3 by omega,c3]
   rw [show j=j / 4*4+3 by omega,d3] at hu
   exact hu
theorem vs_of_own {w:World} {base:Nat} {v:Value} {l:List Va} (h:w.ownsRow base 23 4 v l.length (z4e l)):∃ ao cap,v=.slice ao l.length cap∧Vs w ao l:=by
 obtain ⟨h1,h2⟩:=h
 rcases h2 with ⟨rfl,hn⟩|⟨g,cap,cur,rfl,hb,hg,hnc,hcm,hcs,htake⟩
 ·have:l=[]:=List.eq_nil_of_length_eq_zero hn
  subst this
  exact ⟨none,0,rfl,fun h=>by simp at h⟩
 ·refine ⟨some ⟨g,0,none⟩,cap,rfl,fun _=>⟨g,0,rfl,fun i hi=>?_⟩⟩
  obtain ⟨d0,d1,d2,d3⟩:=cellsV_at l i hi
  rw [← htake] at d0 d1 d2 d3
  have cc:∀ j u,(cur.toList.take (l.length*4))[j]?=some u→w.cell? ⟨g,j,none⟩=some u:=by
   intro j u hu
   rw [cell_of_row w g j cur 23 (0,0) hg]
   rw [List.getElem?_take] at hu
   split at hu
   ·simpa using hu
   ·cases hu
  simp only [Nat.zero_add]
  exact ⟨cc _ _ d0,cc _ _ d1,cc _ _ d2,cc _ _ d3⟩
theorem vown_any (ao:Option Addr) (cap:Nat) (l:List Va) (w:World) (hv:Vs w ao l) (h0:ao=none→l=[]) (hl:l.length*40≤140737488351232) :
  Calls Tryz.prog 15 #[.slice ao l.length cap] w fun e w'=>∃ ao' cap',e=.returned (.slice ao' l.length cap')∧Vs w' ao' l∧Below w.heap.size w w':=by
 obtain ⟨i0,hi,hz0,hz1,hz2⟩:=info_parts Tryz.info23
 have A1:Below w.heap.size w (w.alloc (.cells #[] 23)):=(Below.refl _ _).alloc (Nat.le_refl _) _
 have hs:=src_of_vs (cap:=cap) (hv.later A1) h0
 have hmade:(w.alloc (.cells #[] 23)).ownsRow w.heap.size 23 4 (.slice (some ⟨w.heap.size,0,none⟩) 0 0) 0 []:=World.ownsRow_made w #[] 0 (Nat.le_refl _) (by decide) (by simp)
 go_enter Tryz.func15,Tryz.ntmps15
 go_wp2_with (at_builtin;refine z3k rfl (.tmp 3) (.tmp 4) 34 34 rfl w.heap.size 23 i0 (.agg #[.int .i64 0,.int .i64 0,.int .i64 0,.string ⟨#[]⟩]) 4 40 Tryz.underlying34 hi hz0 hz1 hz2 rfl _ 0 [] rfl hmade _ l.length (z4e l) rfl hs (by unfold maxLen;omega) (by omega) (by simp) ?_)
 intro v2 w2 ho2 hg2
 have B2:Below w.heap.size w w2:=A1.grown hg2 (by simp) (fun k hk=>by cases hk;exact Nat.le_refl _)
 obtain ⟨ao',cap',rfl,hv2⟩:=vs_of_own ho2
 clear ho2 hg2 hmade hs A1 hv
 go_wp2
 go_ret
 exact ⟨_,_,rfl,hv2,B2⟩
def sameV (a b:Va):Bool:=a.k==b.k&&(a.n==b.n&&(a.m==b.m&&(ByteArray.mk a.b.toArray).toList==(ByteArray.mk b.b.toArray).toList))
theorem sameV_iff (a b:Va):sameV a b=true↔a=b:=by
 obtain ⟨k,n,m,l⟩:=a
 obtain ⟨k',n',m',l'⟩:=b
 unfold sameV
 rw [Lib.toList_data,Lib.toList_data]
 simp
instance:DecidableEq Va:=fun a b=>decidable_of_iff (sameV a b=true) (sameV_iff a b)
theorem vsame_any (ao bo:Option Addr) (c d:Nat) (x y:List Va) (w:World) (hx:Vs w ao x) (hy:Vs w bo y) (lx:x.length≤9223372036854775806) (ly:y.length≤9223372036854775806) :
  Calls Tryz.prog 18 #[.slice ao x.length c,.slice bo y.length d] w fun e w'=>e=.returned (.bool (decide (x=y)))∧Below w.heap.size w w':=by
 obtain ⟨R,hR⟩:∃ R,R=decide (x=y):=⟨_,rfl⟩
 rw [← hR]
 have HR:Hid (R=decide (x=y)):=hR
 obtain ⟨n,hn⟩:∃ n,x.length=n:=⟨_,rfl⟩
 obtain ⟨m,hm⟩:∃ m,y.length=m:=⟨_,rfl⟩
 rw [hn] at lx ⊢
 rw [hm] at ly ⊢
 have HN:Hid (x.length=n):=hn
 have HM:Hid (y.length=m):=hm
 clear hn hm hR
 by_cases hnm:n=m
 ·subst hnm
  go_enter Tryz.func18,Tryz.ntmps18
  go_wp2
  go_loopw [5] (fun r wr=>∃ k:Nat,r=.int .i64 (k:Int)∧k≤n∧Below w.heap.size w wr∧Hid (∀ i (h1:i<x.length) (h2:i<y.length),i<k→x[i]=y[i])) (fun r _=>n - (intOf r).toNat)
  case atStart=>exact ⟨0,rfl,Nat.zero_le _,Below.refl _ _,fun i _ _ h=>by omega⟩
  case round =>
   obtain ⟨k,rfl,hk,hB,hA⟩:=hrel
   have sB:=hB.size
   by_cases hlt:k<n
   ·have hlt':(k:Int)<(n:Int):=by omega
    have k0:(0:Int)≤(k:Int):=by omega
    have kx:k<x.length:=by have:=HN.out;omega
    have ky:k<y.length:=by have:=HM.out;omega
    obtain ⟨b1,o1,rfl,hc1⟩:=hx (by omega)
    obtain ⟨b2,o2,rfl,hc2⟩:=hy (by omega)
    obtain ⟨c0,c1,c2,c3⟩:=(hc1 k kx).later hB
    obtain ⟨d0,d1,d2,d3⟩:=(hc2 k ky).later hB
    have g1:=((hc1 k kx).later hB).lt
    have g2:=((hc2 k ky).later hB).lt
    have Sm:∀ W,Calls Tryz.prog 10 #[vv x[k],vv y[k]] W fun e w'=>e=.returned (.bool (sameV x[k] y[k]))∧Grew W w':=fun W=>z7m _ _ _ _ _ _ _ _ W
    have hsi:=sameV_iff x[k] y[k]
    obtain ⟨V,hV⟩:∃ V,V=sameV x[k] y[k]:=⟨_,rfl⟩
    rw [← hV] at Sm hsi
    have HV:Hid (V=true↔x[k]=y[k]):=hsi
    obtain ⟨⟨ak,an,am,ab⟩,ha⟩:∃ v:Va,v=x[k]:=⟨_,rfl⟩
    obtain ⟨⟨bk,bn,bm,bb⟩,hb⟩:∃ v:Va,v=y[k]:=⟨_,rfl⟩
    rw [← ha] at c0 c1 c2 c3 Sm
    rw [← hb] at d0 d1 d2 d3 Sm
    simp only at c0 c1 c2 c3 d0 d1 d2 d3
    clear ha hb hc1 hc2 hV hx hy hsi
    cases V
    ·have HF:Hid (R=false):=by
      show R=false
      rw [HR.out]
      refine decide_eq_false fun h=>?_
      have:=HV.out.2 (by subst h;rfl)
      cases this
     go_upto_region 6 with fail
     go_region_held2 (fun W=>W.cell? ⟨b1,o1+k*4,none⟩=some (.int .i64 ak)∧W.cell? ⟨b1,o1+k*4+1,none⟩=some (.int .i64 an)∧W.cell? ⟨b1,o1+k*4+2,none⟩=some (.int .i64 am)∧W.cell? ⟨b1,o1+k*4+3,none⟩=some (.string ⟨ab.toArray⟩) ∧
       W.cell? ⟨b2,o2+k*4,none⟩=some (.int .i64 bk)∧W.cell? ⟨b2,o2+k*4+1,none⟩=some (.int .i64 bn)∧W.cell? ⟨b2,o2+k*4+2,none⟩=some (.int .i64 bm)∧W.cell? ⟨b2,o2+k*4+3,none⟩=some (.string ⟨bb.toArray⟩))
      (first|go_keep|(refine ⟨?_,?_,?_,?_,?_,?_,?_,?_⟩ <;> assumption))
      ((go_at_call 10;refine (Sm _).mono ?_;rintro e w2 ⟨rfl,gq⟩;have bp:Below wr.heap.size wr w2:=z0a (Below.refl _ wr).drew gq.below;obtain ⟨c0',c1',c2',c3'⟩:=At4.later (v:=⟨ak,an,am,ab⟩) ⟨c0,c1,c2,c3⟩ bp;obtain ⟨d0',d1',d2',d3'⟩:=At4.later (v:=⟨bk,bn,bm,bb⟩) ⟨d0,d1,d2,d3⟩ bp))
     go_wp2
     go_ret
     exact ⟨by rw [HF.out];rfl,z0a hB bp⟩
    ·go_upto_region 6 with fail
     go_region_held2 (fun W=>W.cell? ⟨b1,o1+k*4,none⟩=some (.int .i64 ak)∧W.cell? ⟨b1,o1+k*4+1,none⟩=some (.int .i64 an)∧W.cell? ⟨b1,o1+k*4+2,none⟩=some (.int .i64 am)∧W.cell? ⟨b1,o1+k*4+3,none⟩=some (.string ⟨ab.toArray⟩) ∧
       W.cell? ⟨b2,o2+k*4,none⟩=some (.int .i64 bk)∧W.cell? ⟨b2,o2+k*4+1,none⟩=some (.int .i64 bn)∧W.cell? ⟨b2,o2+k*4+2,none⟩=some (.int .i64 bm)∧W.cell? ⟨b2,o2+k*4+3,none⟩=some (.string ⟨bb.toArray⟩))
      (first|go_keep|(refine ⟨?_,?_,?_,?_,?_,?_,?_,?_⟩ <;> assumption))
      ((go_at_call 10;refine (Sm _).mono ?_;rintro e w2 ⟨rfl,gq⟩;have bp:Below wr.heap.size wr w2:=z0a (Below.refl _ wr).drew gq.below;obtain ⟨c0',c1',c2',c3'⟩:=At4.later (v:=⟨ak,an,am,ab⟩) ⟨c0,c1,c2,c3⟩ bp;obtain ⟨d0',d1',d2',d3'⟩:=At4.later (v:=⟨bk,bn,bm,bb⟩) ⟨d0,d1,d2,d3⟩ bp))
     go_wp2
     go_roundw
     case rel =>
      refine ⟨k+1,by go_num,by omega,z0a hB bp,fun i h1 h2 hik=>?_⟩
      by_cases h:i<k
      ·exact hA.out i h1 h2 h
      ·have:i=k:=by omega
       subst this
       exact HV.out.1 (by first|rfl|trivial)
     case measure=>simp [intOf];omega
   ·have hlt':¬ (k:Int)<(n:Int):=by omega
    have HF:Hid (R=true):=by
     show R=true
     rw [HR.out]
     refine decide_eq_true ?_
     have h1:=HN.out
     have h2:=HM.out
     exact List.ext_getElem (by omega) fun i hi1 hi2=>hA.out i hi1 hi2 (by omega)
    go_wp2
    go_ret
    exact ⟨by rw [HF.out];rfl,hB⟩
 ·have hne:((n:Int)==(m:Int))=false:=by rw [beq_eq_false_iff_ne];omega
  have HF:Hid (R=false):=by
   show R=false
   rw [HR.out]
   refine decide_eq_false fun h=>hnm ?_
   have h1:=HN.out
   have h2:=HM.out
   subst h
   omega
  go_enter Tryz.func18,Tryz.ntmps18
  go_wp2
  go_ret
  exact ⟨by rw [HF.out];rfl,Below.refl _ _⟩
end Go.Proofs.YtibbenhplmmmiaaGreatDoor

namespace Go.Proofs.YtibbenhplmmmiaaGreatDoor
open Go.ChangeShapes Go.WideShapes Go.ChangeAt Go.WideMaps Go.WideElems Go.RowKit Go.Shelf Go.Lib
theorem bytes40:Tryz.prog.bytesOf 23=40:=by kernel_rfl
theorem cells4 {W:World} {a:Addr} {c0 c1 c2 c3:Value} (h:W.cells? 0 a 4=some [c0,c1,c2,c3]):W.cell? (a.add 0)=some c0∧W.cell? (a.add 1)=some c1∧W.cell? (a.add 2)=some c2∧W.cell? (a.add 3)=some c3:=by
 unfold World.cells? at h
 rw [if_pos (Nat.zero_le _)] at h
 have e:List.range 4=[0,1,2,3]:=rfl
 rw [e] at h
 simp only [List.mapM_cons,List.mapM_nil] at h
 cases h0:W.cell? (a.add 0) with
 | none=>simp [h0] at h
 | some v0 =>
  cases h1:W.cell? (a.add 1) with
  | none=>simp [h0,h1] at h
  | some v1 =>
   cases h2:W.cell? (a.add 2) with
   | none=>simp [h0,h1,h2] at h
   | some v2 =>
    cases h3:W.cell? (a.add 3) with
    | none=>simp [h0,h1,h2,h3] at h
    | some v3 =>
     simp [h0,h1,h2,h3] at h
     obtain ⟨rfl,rfl,rfl,rfl⟩:=h
     exact ⟨rfl,rfl,rfl,rfl⟩
theorem vals_open {H:Type} {enc:TypeId × Value→H} {W:World} {a:Option Addr} {len cap fuel:Nat} {cs:List Value} {x:DataW H × List MemPlace}
  (hf:DataW.trod enc Tryz.prog W 0 (fun _=>true) true fuel 34 cs=some x) (hcs:cs=[.slice a len cap]) :
  ∃ l:List Va,(Vs W a l∧(a=none→l=[])∧l.length=len∧len≤cap∧∀ v∈l,vin v)∧(cap=0∨∃ es sp,x.1=.slice es sp∧es.length+sp.length=cap):=by
 subst hcs
 have hc4:Tryz.prog.cellsOf 23=4:=by kernel_rfl
 rcases Go.Deep.open_slice Tryz.underlying34 hf with ⟨hcs,_⟩|⟨y,l,c,m,n,D,Pl,hcs,_,hl,hm,hmm,hx,hel⟩
 ·simp at hcs
  obtain ⟨rfl,rfl,rfl⟩:=hcs
  exact ⟨[],⟨fun h=>by simp at h,fun _=>rfl,rfl,Nat.le_refl _,fun v h=>by simp at h⟩,.inl rfl⟩
 ·simp at hcs
  obtain ⟨rfl,rfl,rfl⟩:=hcs
  have hmc:m=cap:=by simpa using hmm
  rw [hc4] at hel
  have ex:∀ i,i<len→∃ v:Va,W.cells? 0 (y.add (i*4)) 4=some [.int .i64 v.k,.int .i64 v.n,.int .i64 v.m,.string ⟨v.b.toArray⟩]∧vin v:=by
   intro i hi
   obtain ⟨cs',h1,h2⟩:=hel i (by omega)
   obtain ⟨v,rfl,hv,_,_⟩:=val_cells h2
   exact ⟨v,h1,hv⟩
  let f:Nat→Va:=fun i=>if h:i<len then (ex i h).choose else ⟨0,0,0,[]⟩
  have hf:∀ i (h:i<len),W.cells? 0 (y.add (i*4)) 4=some [.int .i64 (f i).k,.int .i64 (f i).n,.int .i64 (f i).m,.string ⟨(f i).b.toArray⟩]∧vin (f i):=by
   intro i h
   have:f i=(ex i h).choose:=dif_pos h
   rw [this]
   exact (ex i h).choose_spec
  refine ⟨(List.range len).map f,⟨?_,(fun h=>by cases h),by simp,by omega,?_⟩,.inr ⟨_,_,by rw [hx],by simp;omega⟩⟩
  ·intro hp
   simp only [List.length_map,List.length_range] at hp
   obtain ⟨b,off,spot⟩:=y
   have h0:=cells4 (hf 0 hp).1
   have hspot:spot=none:=by simpa [Addr.add] using World.cell?_spot h0.1
   subst hspot
   refine ⟨b,off,rfl,fun i hi=>?_⟩
   simp only [List.length_map,List.length_range] at hi
   obtain ⟨g0,g1,g2,g3⟩:=cells4 (hf i hi).1
   simp only [Addr.add_lit] at g0 g1 g2 g3
   simp only [List.getElem_map,List.getElem_range]
   exact ⟨g0,g1,g2,g3⟩
  ·intro v hv
   simp only [List.mem_map,List.mem_range] at hv
   obtain ⟨i,hi,rfl⟩:=hv
   exact (hf i hi).2
end Go.Proofs.YtibbenhplmmmiaaGreatDoor

namespace Go.Proofs.YtibbenhplmmmiaaGreatDoor
open Go.RowKit Go.Shelf
attribute [local go_sem] z0e z0b z0c z0f z0m z0k z0h z0d z0g
def eqv (k n m:Int) (b:ByteArray) (k' n' m':Int) (b':ByteArray):Bool:=k==k'&&(n==n'&&(m==m'&&b.toList==b'.toList))
theorem eqVb (k n m k' n' m':Int) (b b':ByteArray) (w:World):(Op.equalIn 10000 23 (va k n m b) (va k' n' m' b')).run Tryz.prog w=.ok (eqv k n m b k' n' m' b') w:=eqVa k n m k' n' m' b b' w
attribute [local go_sem high] eqVb
def truN (k n m:Int) (b:ByteArray):Int:=if vrt k n m b=true∧k=4 then n else 2
def truB (k n m:Int) (b:ByteArray):Bool:=vrt k n m b&&(k==0 || k==4)
theorem z6t (k n m:Int) (b:ByteArray) (w:World) :
  Calls Tryz.prog 71 #[va k n m b] w fun e w'=>e=.returned (.tuple #[.int .i64 (truN k n m b),.bool (truB k n m b)])∧Below w.heap.size w w':=by
 have bx:=Box.new w k n m b.data.toList
 have R:=rright_any k n m b (w.alloc (.cells #[.int .i64 k,.int .i64 n,.int .i64 m,.string b] 23))
 have Bw:Below w.heap.size w (w.alloc (.cells #[.int .i64 k,.int .i64 n,.int .i64 m,.string b] 23)):=(Below.refl _ _).alloc (Nat.le_refl _) _
 unfold truN truB
 generalize vrt k n m b=g at *
 cases g
 ·rw [if_neg (by simp),Bool.false_and]
  go_enter Tryz.func71,Tryz.ntmps71
  go_upto_region 1 with fail
  go_wp2_with fail
  refine R.mono ?_
  rintro e w1 ⟨rfl,b1⟩
  have B1:=z0a Bw b1
  have bx1:=bx.later b1
  obtain ⟨c0,c1,c2,c3⟩:=bx1.at4
  simp only at c0 c1 c2 c3
  clear R bx bx1 b1 Bw
  go_wp2
  all_goals go_ret2
  all_goals exact ⟨rfl,B1⟩
 ·rw [Bool.true_and]
  by_cases h0:k=0
  ·subst h0
   rw [if_neg (by omega),show ((0:Int)==0 || (0:Int)==4)=true by decide]
   go_enter Tryz.func71,Tryz.ntmps71
   go_upto_region 1 with fail
   go_wp2_with fail
   refine R.mono ?_
   rintro e w1 ⟨rfl,b1⟩
   have B1:=z0a Bw b1
   have bx1:=bx.later b1
   obtain ⟨c0,c1,c2,c3⟩:=bx1.at4
   simp only at c0 c1 c2 c3
   clear R bx bx1 b1 Bw
   go_wp2
   all_goals go_ret2
   all_goals exact ⟨rfl,B1⟩
  ·have d0:(k==0)=false:=by simpa using h0
   by_cases h4:k=4
   ·subst h4
    rw [if_pos ⟨rfl,rfl⟩,show ((4:Int)==0 || (4:Int)==4)=true by decide]
    clear h0 d0
    go_enter Tryz.func71,Tryz.ntmps71
    go_upto_region 1 with fail
    go_wp2_with fail
    refine R.mono ?_
    rintro e w1 ⟨rfl,b1⟩
    have B1:=z0a Bw b1
    have bx1:=bx.later b1
    obtain ⟨c0,c1,c2,c3⟩:=bx1.at4
    simp only at c0 c1 c2 c3
    clear R bx bx1 b1 Bw
    go_wp2
    all_goals go_ret2
    all_goals exact ⟨rfl,B1⟩
   ·have d4:(k==4)=false:=by simpa using h4
    rw [if_neg (fun h=>h4 h.2),d0,d4,Bool.false_or]
    have n0:(k != 0)=true:=by simpa using h0
    have n4:(k != 4)=true:=by simpa using h4
    clear h0 h4
    go_enter Tryz.func71,Tryz.ntmps71
    go_upto_region 1 with fail
    go_wp2_with fail
    refine R.mono ?_
    rintro e w1 ⟨rfl,b1⟩
    have B1:=z0a Bw b1
    have bx1:=bx.later b1
    obtain ⟨c0,c1,c2,c3⟩:=bx1.at4
    simp only at c0 c1 c2 c3
    clear R bx bx1 b1 Bw
    go_wp2
    all_goals go_ret2
    all_goals exact ⟨rfl,B1⟩
theorem tru_cases (k n m:Int) (b:ByteArray) :
  (eqv k n m b 0 0 0 ⟨#[]⟩=true→truN k n m b=2∧truB k n m b=true) ∧
  (eqv k n m b 4 1 0 ⟨#[]⟩=true→truN k n m b=1∧truB k n m b=true) ∧
  (eqv k n m b 4 0 0 ⟨#[]⟩=true→truN k n m b=0∧truB k n m b=true) ∧
  (eqv k n m b 0 0 0 ⟨#[]⟩=false→eqv k n m b 4 1 0 ⟨#[]⟩=false→eqv k n m b 4 0 0 ⟨#[]⟩=false→truN k n m b=2∧truB k n m b=false):=by
 unfold eqv
 rw [z6s]
 unfold truN truB vrt vft
 generalize b.data.toList=l
 refine ⟨?_,?_,?_,?_⟩
 ·intro h
  simp only [Bool.and_eq_true,beq_iff_eq] at h
  obtain ⟨rfl,rfl,rfl,rfl⟩:=h
  simp
 ·intro h
  simp only [Bool.and_eq_true,beq_iff_eq] at h
  obtain ⟨rfl,rfl,rfl,rfl⟩:=h
  simp
 ·intro h
  simp only [Bool.and_eq_true,beq_iff_eq] at h
  obtain ⟨rfl,rfl,rfl,rfl⟩:=h
  simp
 ·intro h1 h2 h3
  by_cases h0:k=0
  ·subst h0
   simp at h1 ⊢
   intro a b c
   exact h1 a b c
  ·by_cases h4:k=4
   ·subst h4
    simp at h2 h3
    simp
    by_cases hm:m=0∧l=[]
    ·obtain ⟨rfl,rfl⟩:=hm
     simp at h2 h3 ⊢
     exact ⟨fun h=>by omega,h3,h2⟩
    ·simp only [not_and] at hm
     constructor
     ·intro h g;exact absurd g (hm h)
     ·intro h g;exact absurd g (hm h)
   ·simp [h0,h4]
theorem z7x (k n m:Int) (b:ByteArray) (w:World) :
  Calls Tryz.prog 69 #[va k n m b] w fun e w'=>e=.returned (.tuple #[.int .i64 (truN k n m b),.bool (truB k n m b)])∧Grew w w':=by
 obtain ⟨t1,t2,t3,t4⟩:=tru_cases k n m b
 have O2:∀ W,Calls Tryz.prog 72 #[.int .i64 2] W fun e w'=>e=.returned (va 0 0 0 ⟨#[]⟩)∧Grew W w':=fun W=>of_any 2 W
 have O1:∀ W,Calls Tryz.prog 72 #[.int .i64 1] W fun e w'=>e=.returned (va 4 1 0 ⟨#[]⟩)∧Grew W w':=fun W=>of_any 1 W
 have O0:∀ W,Calls Tryz.prog 72 #[.int .i64 0] W fun e w'=>e=.returned (va 4 0 0 ⟨#[]⟩)∧Grew W w':=fun W=>of_any 0 W
 cases h2:eqv k n m b 0 0 0 ⟨#[]⟩
 ·cases h1:eqv k n m b 4 1 0 ⟨#[]⟩
  ·cases h0:eqv k n m b 4 0 0 ⟨#[]⟩
   ·obtain ⟨e1,e2⟩:=t4 h2 h1 h0
    rw [e1,e2]
    clear t1 t2 t3 t4 e1 e2
    go_enter Tryz.func69,Tryz.ntmps69
    go_wp2_with (first
     | (go_at_call_of 72 (Value.int IntKind.i64 2);refine (O2 _).mono ?_;rintro e w1 ⟨rfl,os1,n1,rfl⟩)
     | (go_at_call_of 72 (Value.int IntKind.i64 1);refine (O1 _).mono ?_;rintro e w1 ⟨rfl,os1,n1,rfl⟩)
     | (go_at_call_of 72 (Value.int IntKind.i64 0);refine (O0 _).mono ?_;rintro e w1 ⟨rfl,os1,n1,rfl⟩))
    all_goals go_ret2
    all_goals exact ⟨rfl,gB⟩
   ·obtain ⟨e1,e2⟩:=t3 h0
    rw [e1,e2]
    clear t1 t2 t3 t4 e1 e2
    go_enter Tryz.func69,Tryz.ntmps69
    go_wp2_with (first
     | (go_at_call_of 72 (Value.int IntKind.i64 2);refine (O2 _).mono ?_;rintro e w1 ⟨rfl,os1,n1,rfl⟩)
     | (go_at_call_of 72 (Value.int IntKind.i64 1);refine (O1 _).mono ?_;rintro e w1 ⟨rfl,os1,n1,rfl⟩)
     | (go_at_call_of 72 (Value.int IntKind.i64 0);refine (O0 _).mono ?_;rintro e w1 ⟨rfl,os1,n1,rfl⟩))
    all_goals go_ret2
    all_goals exact ⟨rfl,gB⟩
  ·obtain ⟨e1,e2⟩:=t2 h1
   rw [e1,e2]
   clear t1 t2 t3 t4 e1 e2
   go_enter Tryz.func69,Tryz.ntmps69
   go_wp2_with (first
    | (go_at_call_of 72 (Value.int IntKind.i64 2);refine (O2 _).mono ?_;rintro e w1 ⟨rfl,os1,n1,rfl⟩)
    | (go_at_call_of 72 (Value.int IntKind.i64 1);refine (O1 _).mono ?_;rintro e w1 ⟨rfl,os1,n1,rfl⟩)
    | (go_at_call_of 72 (Value.int IntKind.i64 0);refine (O0 _).mono ?_;rintro e w1 ⟨rfl,os1,n1,rfl⟩))
   all_goals go_ret2
   all_goals exact ⟨rfl,gB⟩
 ·obtain ⟨e1,e2⟩:=t1 h2
  rw [e1,e2]
  clear t1 t2 t3 t4 e1 e2
  go_enter Tryz.func69,Tryz.ntmps69
  go_wp2_with (first
   | (go_at_call_of 72 (Value.int IntKind.i64 2);refine (O2 _).mono ?_;rintro e w1 ⟨rfl,os1,n1,rfl⟩)
   | (go_at_call_of 72 (Value.int IntKind.i64 1);refine (O1 _).mono ?_;rintro e w1 ⟨rfl,os1,n1,rfl⟩)
   | (go_at_call_of 72 (Value.int IntKind.i64 0);refine (O0 _).mono ?_;rintro e w1 ⟨rfl,os1,n1,rfl⟩))
  all_goals go_ret2
  all_goals exact ⟨rfl,gB⟩
end Go.Proofs.YtibbenhplmmmiaaGreatDoor

namespace Go.Proofs.YtibbenhplmmmiaaGreatDoor
open Go.RowKit Go.Shelf
attribute [local go_sem] z0e z0b z0c z0f z0m z0k z0h z0d z0g
theorem eqVs (k n m k' n' m':Int) (b b':ByteArray) (w:World):(Op.equalIn 10000 23 (va k n m b) (va k' n' m' b')).run Tryz.prog w=.ok (sameV ⟨k,n,m,b.data.toList⟩ ⟨k',n',m',b'.data.toList⟩) w:=eqVa k n m k' n' m' b b' w
attribute [local go_sem high] eqVs
theorem z2p (x y:Int) (w:World):Calls Tryz.prog 197 #[.int .i64 x,.int .i64 y] w fun e w'=>e=.returned (.int .i64 (numc x y))∧w=w':=by
 by_cases h:x<y
 ·rw [show numc x y=-1 by unfold numc;rw [if_pos h]]
  go_enter Tryz.func197,Tryz.ntmps197
  go_wp2
  all_goals go_ret
  all_goals exact ⟨rfl,rfl⟩
 ·by_cases h':y<x
  ·rw [show numc x y=1 by unfold numc;rw [if_neg h,if_pos h']]
   go_enter Tryz.func197,Tryz.ntmps197
   go_wp2
   all_goals go_ret
   all_goals exact ⟨rfl,rfl⟩
  ·rw [show numc x y=0 by unfold numc;rw [if_neg h,if_neg (by omega)]]
   go_enter Tryz.func197,Tryz.ntmps197
   go_wp2
   all_goals go_ret
   all_goals exact ⟨rfl,rfl⟩
def clsK (k:Int):Int:=if k=1∨k=2 then 2 else if k=3 then 3 else if k=4 then 4 else if k=5 then 5 else 1
theorem z2n (k:Int) (w:World):Calls Tryz.prog 198 #[.int .i64 k] w fun e w'=>e=.returned (.int .i64 (clsK k))∧w=w':=by
 by_cases h1:k=1
 ·subst h1
  rw [show clsK 1=2 by decide]
  go_enter Tryz.func198,Tryz.ntmps198
  go_wp2
  all_goals go_ret
  all_goals exact ⟨rfl,rfl⟩
 have c1:(k==1)=false:=by simpa using h1
 by_cases h2:k=2
 ·subst h2
  rw [show clsK 2=2 by decide]
  go_enter Tryz.func198,Tryz.ntmps198
  go_wp2
  all_goals go_ret
  all_goals exact ⟨rfl,rfl⟩
 have c2:(k==2)=false:=by simpa using h2
 by_cases h3:k=3
 ·subst h3
  rw [show clsK 3=3 by decide]
  go_enter Tryz.func198,Tryz.ntmps198
  go_wp2
  all_goals go_ret
  all_goals exact ⟨rfl,rfl⟩
 have c3:(k==3)=false:=by simpa using h3
 by_cases h4:k=4
 ·subst h4
  rw [show clsK 4=4 by decide]
  go_enter Tryz.func198,Tryz.ntmps198
  go_wp2
  all_goals go_ret
  all_goals exact ⟨rfl,rfl⟩
 have c4:(k==4)=false:=by simpa using h4
 by_cases h5:k=5
 ·subst h5
  rw [show clsK 5=5 by decide]
  go_enter Tryz.func198,Tryz.ntmps198
  go_wp2
  all_goals go_ret
  all_goals exact ⟨rfl,rfl⟩
 have c5:(k==5)=false:=by simpa using h5
 rw [show clsK k=1 by simp [clsK,h1,h2,h3,h4,h5]]
 go_enter Tryz.func198,Tryz.ntmps198
 go_wp2
 all_goals go_ret
 all_goals exact ⟨rfl,rfl⟩
theorem z3v (b n:Nat) (zs:List Int) (w:World) (hn:zs.length=n) (hl:n≤1000) (hc:∀ i (h:i<zs.length),w.cell? ⟨b,i,none⟩=some (.int .i64 zs[i])) :
  Calls Tryz.prog 196 #[.slice (some ⟨b,0,none⟩) n n] w fun e w'=>e=.returned (.int .i64 (orL zs))∧w=w':=by
 obtain ⟨R,hR⟩:∃ R,R=orL zs:=⟨_,rfl⟩
 rw [← hR]
 have HN:Hid (zs.length=n):=hn
 have HC:Hid (∀ i (h:i<zs.length),w.cell? ⟨b,i,none⟩=some (.int .i64 zs[i])):=hc
 have HR:Hid (R=orL zs):=hR
 clear hn hc hR
 go_enter Tryz.func196,Tryz.ntmps196
 go_wp2
 go_loopw [3] (fun r wr=>∃ k:Nat,r=.int .i64 (k:Int)∧k≤n∧wr=w∧Hid (∀ i (h:i<zs.length),i<k→zs[i]=0)) (fun r _=>n - (intOf r).toNat)
 case atStart=>exact ⟨0,rfl,Nat.zero_le _,rfl,fun i _ h=>by omega⟩
 case round =>
  obtain ⟨k,rfl,hk,rfl,hA⟩:=hrel
  by_cases hlt:k<n
  ·have hlt':(k:Int)<(n:Int):=by omega
   have k0:(0:Int)≤(k:Int):=by omega
   have hkl:k<zs.length:=by rw [HN.out];exact hlt
   have c0:=HC.out k hkl
   have hd:=z9y zs k hA.out
   rw [List.drop_eq_getElem_cons hkl] at hd
   obtain ⟨z,he⟩:∃ z,z=zs[k]:=⟨_,rfl⟩
   rw [← he] at c0 hd
   have HZ:Hid (z=zs[k]):=he
   clear he
   by_cases hz:z=0
   ·have hz':(z==0)=true:=by simpa using hz
    clear hd
    go_wp2
    go_roundw
    case rel =>
     refine ⟨k+1,by go_num,by omega,by first|rfl|trivial,fun i hi hik=>?_⟩
     by_cases h:i<k
     ·exact hA.out i hi h
     ·have:i=k:=by omega
      subst this
      rw [← HZ.out,hz]
    case measure=>simp [intOf];omega
   ·have hz':(z==0)=false:=by simpa using hz
    have HR':Hid (R=z):=by
     show R=z
     rw [HR.out,hd]
     simp only [orL]
     rw [orr_ne hz]
    clear hd
    go_wp2
    go_ret
    exact ⟨by rw [HR'.out];rfl,rfl⟩
  ·have hlt':¬ (k:Int)<(n:Int):=by omega
   have HR':Hid (R=0):=by
    show R=0
    rw [HR.out,z9y zs k hA.out,List.drop_eq_nil_of_le (by have:=HN.out;omega)]
    rfl
   go_wp2
   go_ret
   exact ⟨by rw [HR'.out];rfl,rfl⟩
end Go.Proofs.YtibbenhplmmmiaaGreatDoor
