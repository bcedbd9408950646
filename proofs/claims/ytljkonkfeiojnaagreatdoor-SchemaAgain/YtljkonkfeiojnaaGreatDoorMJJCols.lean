/-
  The contract of expr.Read.
  Names of nodes that came in are not too long.
  Tables as plain data, and how they lie; names and columns that may be.
  Columns of one name; whole numbers among whole numbers.
  Columns that may be.
-/
import Derived.Test.YtljkonkfeiojnaaGreatDoorMIEUn2
import Derived.Test.YtljkonkfeiojnaaGreatDoorMFEFit
set_option maxHeartbeats 4000000
set_option maxRecDepth 20000
namespace Go.Proofs.YtljkonkfeiojnaaGreatDoor
open Go.RowKit Go.Shelf
attribute [local go_sem] z0f z0b z0c z0e z0m z0k z0h z0d z0g
theorem ncells_at (x:List Nd):∀ (i j:Nat) (hi:i<x.length),j<8→(z4p x)[i*8+j]?=(ncs x[i])[j]?:=by
 induction x with
 | nil=>intro i j hi;simp at hi
 | cons t x ih =>
  intro i j hi hj
  have e:z4p (t::x)=(ncs t).toList++z4p x:=by simp [z4p]
  rw [e]
  cases i with
  | zero =>
   rw [List.getElem?_append_left (by simpa using hj)]
   simp
  | succ i =>
   rw [List.getElem?_append_right (by simp;omega)]
   simp at hi
   have:=ih i j hi hj
   simp only [List.getElem_cons_succ]
   rw [← this]
   congr 1
   simp;omega
theorem z1n.lies {w:World} {base:Nat} {v:Value} {x:List Nd} (h:z1n w base v x) :
  ∃ ao cap,v=.slice ao x.length cap∧Nw w ao x:=by
 obtain ⟨h1,h2⟩:=h
 rcases h2 with ⟨rfl,hn⟩|⟨g,cap,cur,rfl,hb,hg,hnc,hcm,hcs,htake⟩
 ·exact ⟨none,0,by rw [hn],fun hp=>by omega⟩
 ·refine ⟨some ⟨g,0,none⟩,cap,rfl,fun hp=>⟨g,0,rfl,fun i hi=>?_⟩⟩
  have hc:∀ j,j<8→w.cell? ⟨g,0+i*8+j,none⟩=(ncs x[i])[j]?:=by
   intro j hj
   rw [← ncells_at x i j hi hj,cell_of_row w g (0+i*8+j) cur _ (0,0) hg,← htake]
   rw [List.getElem?_take,if_pos (by omega),Nat.zero_add]
   simp
  exact ⟨hc 0 (by decide),hc 1 (by decide),hc 2 (by decide),hc 3 (by decide),hc 4 (by decide),hc 5 (by decide),hc 6 (by decide),hc 7 (by decide)⟩
def shN (l:List Nd):Prop:=∀ x∈l,x.t.length≤140737488351232∧x.n.length≤140737488351232
theorem depth_of (ao:Option Addr) (cap:Nat) (l:List Nd) (w:World) (hv:Nw w ao l) (hn:l.length≤140737488351232) (hs:shN l) (hT:Tabs w) :
  Calls Tryz.prog 78 #[.slice ao l.length cap] w fun e w'=>e=.returned (.int .i64 (depN mayN l:Int))∧Below w.heap.size w w' :=
 depth_any mayN ao cap l w hv hn mayN_ops (fun x hx W h=>mayBe_any x W (hT.later h) (hs x hx).1 (hs x hx).2)
theorem z7w (ao:Option Addr) (cap:Nat) (l:List Nd) (w:World) (hv:Nw w ao l) (hn:l.length≤140737488351232) (hs:shN l) (hT:Tabs w) :
  Calls Tryz.prog 54 #[.slice ao l.length cap] w fun e w'=>e=.returned (.bool (decide (0<depN mayN l)))∧Below w.heap.size w w':=by
 have D:=depth_of ao cap l w hv hn hs hT
 generalize depN mayN l=d at *
 have e:decide (0<d)=decide ((0:Int)<(d:Int)):=by simp
 rw [e]
 clear e hv hs hT
 go_enter Tryz.func54,Tryz.ntmps54
 go_wp2_with (go_at_call 78;refine D.mono ?_;rintro e w1 ⟨rfl,b1⟩)
 go_ret
 exact ⟨by show Ending.returned _=_;congr 2;simp,b1⟩
def readP (R:Rz) (base:Nat) (e:Ending) (w':World):Prop :=
 if R.1=0 then (if 0<depN mayN R.2.2 then ∃ v,e=.returned (.tuple #[v,.int .i64 (R.2.1:Int),.int .i64 0])∧z1n w' base v R.2.2 else e=.returned (.tuple #[.slice none 0 0,.int .i64 0,.int .i64 38]))
 else e=.returned (.tuple #[.slice none 0 0,.int .i64 0,.int .i64 (R.1:Int)])
theorem read_any (ao:Option Addr) (ts:List Ti) (cap:Nat) (V:List UInt8→Option Va) (w:World) (E:Env w ao ts) (PA:Pars w ts V) (R:Rz) (hR:rdx (nxt ts) V (ts.length+1) (7+8*ts.length) .ex 0 [] 0=R) (hsh:shN R.2.2) :
  Calls Tryz.prog 41 #[.slice ao ts.length cap] w fun e w'=>readP R w.heap.size e w'∧Below w.heap.size w w':=by
 have A0:=(Below.refl w.heap.size w).alloc (Nat.le_refl _) (.cells (rcs ao ts.length cap 0 tz (.slice none 0 0) 0) 118)
 have B0:Rb (w.alloc (.cells (rcs ao ts.length cap 0 tz (.slice none 0 0) 0) 118)) w.heap.size ao ts.length cap ((0:Nat):Int) tz (.slice none 0 0) 0:=Cbox.new w _ _
 have L:=look_any w w.heap.size ao ts cap 0 0 tz (.slice none 0 0) _ E A0 (Nat.le_refl _) B0
 have X:Hid (∀ W,Stt w ao ts cap w.heap.size W 0 (.slice none 0 0) [] 0→Does w ao ts cap w.heap.size 67 0 0 [] (.slice none 0 0) W R):=fun W h=>by
  have:=all_parts w ao ts cap w.heap.size E V PA (7+8*ts.length) .ex 0 [] (.slice none 0 0) W 0 h (by simp [NT.rank])
  rw [hR] at this
  exact this
 have HT:Hid (Tabs w):=E.tabs
 clear E PA hR
 obtain ⟨re,rk,rc⟩:=R
 simp only at hsh
 go_enter Tryz.func41,Tryz.ntmps41
 go_wp2_with fail
 refine L.mono ?_
 rintro e w1 ⟨rfl,h1,g1⟩
 have S1:Stt w ao ts cap w.heap.size w1 0 (.slice none 0 0) [] 0:=⟨g1.below A0 (by simp) (Nat.le_refl _) (fun k e=>by cases e),Nat.le_refl _,h1,World.ownsRow_nil _ _ _ _,Nat.zero_le _,by simp,by omega⟩
 have X1:=X.out w1 S1
 unfold Does at X1
 simp only at X1
 clear L X S1 h1 g1 A0 B0
 go_wp2_with fail
 refine X1.mono ?_
 rintro e w2 ⟨rfl,⟨n2,S2,G2⟩,_⟩
 clear X1 G2
 by_cases hre:re=0
 case neg =>
  have hre':¬ (re:Int)=0:=by omega
  have b2:=S2.low
  clear S2
  go_wp2
  refine bodyPost_ret_by (v:=.tuple #[.slice none 0 0,.int .i64 0,.int .i64 (re:Int)]) ?_ rfl ⟨by unfold readP;rw [if_neg hre],b2⟩
  simp [results,Tryz.results41,go_sem]
 subst hre
 obtain ⟨na,nc,rfl,hnw⟩:=S2.own.lies
 have c9:=S2.rb.at 9
 have c1:=S2.rb.at 1
 have hl2:=S2.rb.lt
 have hfew:=S2.few
 have RI:=z7w na nc rc w2 hnw (by omega) hsh (HT.out.later S2.low)
 have HS2:Hid (Stt w ao ts cap w.heap.size w2 rk (.slice na rc.length nc) rc 0):=S2
 clear S2 hnw hsh
 by_cases hd:0<depN mayN rc
 ·rw [decide_eq_true hd] at RI
  have HD:Hid (0<depN mayN rc):=hd
  clear hd
  go_wp2_with fail
  refine RI.mono ?_
  rintro e w3 ⟨rfl,b3⟩
  have S3:=HS2.out.later b3
  have d9:=S3.rb.at 9
  have d1:=S3.rb.at 1
  have hl3:=S3.rb.lt
  have ho3:=S3.own
  have hb3:=S3.low
  clear S3 HS2 RI c9 c1 hl2
  go_wp2
  go_region
  all_goals go_wp2
  all_goals refine bodyPost_ret_by (v:=.tuple #[.slice na rc.length nc,.int .i64 (rk:Int),.int .i64 0]) ?_ rfl ⟨by unfold readP;rw [if_pos rfl,if_pos HD.out];exact ⟨_,rfl,ho3⟩,by first|exact hb3|exact hb3.drew⟩
  all_goals simp [results,Tryz.results41,go_sem]
 ·rw [decide_eq_false hd] at RI
  have HD:Hid (¬ 0<depN mayN rc):=hd
  have b2:=HS2.out.low
  clear hd
  go_wp2_with fail
  refine RI.mono ?_
  rintro e w3 ⟨rfl,b3⟩
  go_wp2
  refine bodyPost_ret_by (v:=.tuple #[.slice none 0 0,.int .i64 0,.int .i64 38]) ?_ rfl ⟨by unfold readP;rw [if_pos rfl,if_neg HD.out],z0a b2 b3⟩
  simp [results,Tryz.results41,go_sem]
end Go.Proofs.YtljkonkfeiojnaaGreatDoor

namespace Go.Proofs.YtljkonkfeiojnaaGreatDoor
open Go.ChangeShapes Go.WideShapes Go.ChangeAt Go.WideMaps Go.WideElems Go.RowKit Go.Shelf Go.Lib
end Go.Proofs.YtljkonkfeiojnaaGreatDoor

namespace Go.Proofs.YtljkonkfeiojnaaGreatDoor
open Go.RowKit Go.Shelf
attribute [local go_sem] z0f z0b z0c z0e z0m z0k z0h z0d z0g
structure Co where
 n:List UInt8
 k:Int
 s:Int
 m:Bool
deriving DecidableEq
abbrev cov (c:Co):Value:=.agg #[.string ⟨c.n.toArray⟩,.int .i64 c.k,.int .i64 c.s,.bool c.m]
def C4 (w:World) (b o:Nat) (c:Co):Prop :=
 w.cell? ⟨b,o,none⟩=some (.string ⟨c.n.toArray⟩)∧w.cell? ⟨b,o+1,none⟩=some (.int .i64 c.k)∧w.cell? ⟨b,o+2,none⟩=some (.int .i64 c.s)∧w.cell? ⟨b,o+3,none⟩=some (.bool c.m)
theorem C4.lt {w:World} {b o:Nat} {c:Co} (h:C4 w b o c):b<w.heap.size:=World.block_lt_of_cell? w _ h.1
theorem C4.later {w w':World} {b o:Nat} {c:Co} (h:C4 w b o c) (hb:Below w.heap.size w w'):C4 w' b o c :=
 ⟨by rw [hb.cell (p:=⟨b,o,none⟩) h.lt];exact h.1,by rw [hb.cell (p:=⟨b,o+1,none⟩) h.lt];exact h.2.1,by rw [hb.cell (p:=⟨b,o+2,none⟩) h.lt];exact h.2.2.1,by rw [hb.cell (p:=⟨b,o+3,none⟩) h.lt];exact h.2.2.2⟩
def Cw (w:World) (ao:Option Addr) (l:List Co):Prop :=
 0<l.length→∃ b off,ao=some ⟨b,off,none⟩∧∀ i (h:i<l.length),C4 w b (off+i*4) l[i]
theorem Cw.later {w w':World} {ao:Option Addr} {l:List Co} (h:Cw w ao l) (hb:Below w.heap.size w w'):Cw w' ao l:=by
 intro hp
 obtain ⟨b,off,e,hc⟩:=h hp
 exact ⟨b,off,e,fun i hi=>(hc i hi).later hb⟩
theorem Cw.take {w:World} {ao:Option Addr} {l:List Co} (h:Cw w ao l) (k:Nat):Cw w ao (l.take k):=by
 intro hp
 rw [List.length_take] at hp
 obtain ⟨b,off,e,hc⟩:=h (by omega)
 refine ⟨b,off,e,fun i hi=>?_⟩
 rw [List.length_take] at hi
 rw [List.getElem_take]
 exact hc i (by omega)
def Iw (w:World) (ao:Option Addr) (l:List Int):Prop :=
 0<l.length→∃ b off,ao=some ⟨b,off,none⟩∧∀ i (h:i<l.length),w.cell? ⟨b,off+i,none⟩=some (.int .i64 l[i])
theorem Iw.later {w w':World} {ao:Option Addr} {l:List Int} (h:Iw w ao l) (hb:Below w.heap.size w w'):Iw w' ao l:=by
 intro hp
 obtain ⟨b,off,e,hc⟩:=h hp
 exact ⟨b,off,e,fun i hi=>(hb.cell (p:=⟨b,off+i,none⟩) (World.block_lt_of_cell? w _ (hc i hi))).trans (hc i hi)⟩
def Uw (w:World) (ao:Option Addr) (l:List (List Int)):Prop :=
 0<l.length→∃ b off,ao=some ⟨b,off,none⟩∧∀ i (h:i<l.length),∃ uo uc,w.cell? ⟨b,off+i,none⟩=some (.slice uo l[i].length uc)∧Iw w uo l[i]
theorem Uw.later {w w':World} {ao:Option Addr} {l:List (List Int)} (h:Uw w ao l) (hb:Below w.heap.size w w'):Uw w' ao l:=by
 intro hp
 obtain ⟨b,off,e,hc⟩:=h hp
 refine ⟨b,off,e,fun i hi=>?_⟩
 obtain ⟨uo,uc,h1,h2⟩:=hc i hi
 exact ⟨uo,uc,(hb.cell (p:=⟨b,off+i,none⟩) (World.block_lt_of_cell? w _ h1)).trans h1,h2.later hb⟩
theorem sname_any (l:List UInt8) (w:World) (hl:l.length≤140737488351232):Calls Tryz.prog 29 #[.string ⟨l.toArray⟩] w fun e w'=>e=.returned (.bool (z6m l))∧w=w':=by
 have A:=fun W=>word_any l W hl
 have B:=fun W=>z6t ⟨l.toArray⟩ W
 have e:(ByteArray.mk l.toArray).toList=l:=by rw [ByteArray.toList_eq]
 rw [e] at B
 clear e
 unfold z6m
 generalize ByteArray.mk l.toArray=S at *
 generalize wordL l=b at *
 cases b with
 | false =>
  clear B
  go_enter Tryz.func29,Tryz.ntmps29
  go_wp2_with (go_at_call 49;refine (A _).mono ?_;rintro e w' ⟨rfl,rfl⟩)
  go_ret
  exact ⟨rfl,rfl⟩
 | true =>
  generalize resL l=r at *
  go_enter Tryz.func29,Tryz.ntmps29
  go_wp2_with (first
   | (go_at_call 49;refine (A _).mono ?_;rintro e w' ⟨rfl,rfl⟩)
   | (go_at_call 50;refine (B _).mono ?_;rintro e w' ⟨rfl,rfl⟩))
  go_ret
  exact ⟨rfl,rfl⟩
theorem z5u {a b:Bool} (h:a=true↔b=true):Ending.returned (.bool a)=.returned (.bool b):=by rw [Bool.eq_iff_iff.2 h]
def colK (c:Co):Bool:=z6m c.n&&(decide (1≤c.k)&&(decide (c.k≤5)&&(decide (0≤c.s)&&decide (c.s≤if c.k=2 then 6 else 0))))
theorem column_any (c:Co) (w:World) (hl:c.n.length≤140737488351232):Calls Tryz.prog 51 #[cov c] w fun e w'=>e=.returned (.bool (colK c))∧Below w.heap.size w w':=by
 have A:=fun W=>sname_any c.n W hl
 unfold colK cov
 obtain ⟨cn,ck,cs,cm⟩:=c
 simp only at A ⊢
 generalize ByteArray.mk cn.toArray=S at *
 have A0:=(Below.refl w.heap.size w).alloc (Nat.le_refl _) (.cells #[.string S,.int .i64 ck,.int .i64 cs,.bool cm] 53)
 generalize z6m cn=b at *
 by_cases h2:ck=2
 ·subst h2
  rw [if_pos rfl]
  cases b with
  | false =>
   go_enter Tryz.func51,Tryz.ntmps51
   go_wp2_with (go_at_call 29;refine (A _).mono ?_;rintro e w' ⟨rfl,rfl⟩)
   go_ret
   exact ⟨rfl,A0⟩
  | true =>
   by_cases h3:0≤cs
   ·by_cases h4:cs≤6
    ·go_enter Tryz.func51,Tryz.ntmps51
     go_wp2_with (go_at_call 29;refine (A _).mono ?_;rintro e w' ⟨rfl,rfl⟩)
     go_ret
     exact ⟨z5u (by first|omega|(simp;done)|(simp;omega)),A0⟩
    ·go_enter Tryz.func51,Tryz.ntmps51
     go_wp2_with (go_at_call 29;refine (A _).mono ?_;rintro e w' ⟨rfl,rfl⟩)
     go_ret
     exact ⟨z5u (by first|omega|(simp;done)|(simp;omega)),A0⟩
   ·go_enter Tryz.func51,Tryz.ntmps51
    go_wp2_with (go_at_call 29;refine (A _).mono ?_;rintro e w' ⟨rfl,rfl⟩)
    go_ret
    exact ⟨z5u (by first|omega|(simp;done)|(simp;omega)),A0⟩
 ·rw [if_neg h2]
  cases b with
  | false =>
   go_enter Tryz.func51,Tryz.ntmps51
   go_wp2_with (go_at_call 29;refine (A _).mono ?_;rintro e w' ⟨rfl,rfl⟩)
   go_ret
   exact ⟨rfl,A0⟩
  | true =>
   by_cases h5:1≤ck
   ·by_cases h6:ck≤5
    ·by_cases h3:0≤cs
     ·by_cases h4:cs≤0
      ·go_enter Tryz.func51,Tryz.ntmps51
       go_wp2_with (go_at_call 29;refine (A _).mono ?_;rintro e w' ⟨rfl,rfl⟩)
       go_ret
       exact ⟨z5u (by first|omega|(simp;done)|(simp;omega)),A0⟩
      ·go_enter Tryz.func51,Tryz.ntmps51
       go_wp2_with (go_at_call 29;refine (A _).mono ?_;rintro e w' ⟨rfl,rfl⟩)
       go_ret
       exact ⟨z5u (by first|omega|(simp;done)|(simp;omega)),A0⟩
     ·go_enter Tryz.func51,Tryz.ntmps51
      go_wp2_with (go_at_call 29;refine (A _).mono ?_;rintro e w' ⟨rfl,rfl⟩)
      go_ret
      exact ⟨z5u (by first|omega|(simp;done)|(simp;omega)),A0⟩
    ·go_enter Tryz.func51,Tryz.ntmps51
     go_wp2_with (go_at_call 29;refine (A _).mono ?_;rintro e w' ⟨rfl,rfl⟩)
     go_ret
     exact ⟨z5u (by first|omega|(simp;done)|(simp;omega)),A0⟩
   ·go_enter Tryz.func51,Tryz.ntmps51
    go_wp2_with (go_at_call 29;refine (A _).mono ?_;rintro e w' ⟨rfl,rfl⟩)
    go_ret
    exact ⟨z5u (by first|omega|(simp;done)|(simp;omega)),A0⟩
def hasN (l:List Co) (n:List UInt8):Bool:=l.any fun c=>c.n==n
theorem named1_any (c:Co) (n:List UInt8) (p:Nat) (w:World) (hp:w.cell? ⟨p,0,none⟩=some (.string ⟨n.toArray⟩)) :
  Calls Tryz.prog 77 #[cov c,.pointer (some ⟨p,0,none⟩)] w fun e w'=>e=.returned (.bool (c.n==n))∧Below w.heap.size w w':=by
 have A0:=(Below.refl w.heap.size w).alloc (Nat.le_refl _) (.cells #[.string ⟨c.n.toArray⟩,.int .i64 c.k,.int .i64 c.s,.bool c.m] 53)
 have hpl:=World.block_lt_of_cell? w _ hp
 have hbt:(ByteArray.mk c.n.toArray).toList=c.n:=by rw [ByteArray.toList_eq]
 have hbn:(ByteArray.mk n.toArray).toList=n:=by rw [ByteArray.toList_eq]
 unfold cov
 obtain ⟨cn,ck,cs,cm⟩:=c
 simp only at *
 have HE:Hid ((cn==n)=((ByteArray.mk cn.toArray).toList==(ByteArray.mk n.toArray).toList)):=by show _=_;rw [hbt,hbn]
 clear hbt hbn
 generalize ByteArray.mk cn.toArray=S at *
 generalize ByteArray.mk n.toArray=T at *
 go_enter Tryz.func77,Tryz.ntmps77
 go_wp2
 go_ret
 exact ⟨by rw [HE.out];rfl,A0⟩
theorem idxF_any (ao:Option Addr) (cap:Nat) (l:List Co) (n:List UInt8) (p:Nat) (w:World) (hc:Cw w ao l) (hl:l.length≤140737488351232) (hp:w.cell? ⟨p,0,none⟩=some (.string ⟨n.toArray⟩)) :
  Calls Tryz.prog 102 #[.slice ao l.length cap,.func (.func 77) #[] #[.pointer (some ⟨p,0,none⟩)]] w fun e w'=>(∃ i:Int,e=.returned (.int .i64 i)∧decide (i ≥ 0)=hasN l n)∧Below w.heap.size w w':=by
 have K:∀ (c:Co) W,Below w.heap.size w W→_:=fun c W h=>named1_any c n p W ((h.cell (p:=⟨p,0,none⟩) (World.block_lt_of_cell? w _ hp)).trans hp)
 obtain ⟨m,hm⟩:∃ m,l.length=m:=⟨_,rfl⟩
 have HM:Hid (l.length=m):=hm
 have HC:Hid (Cw w ao l):=hc
 rw [hm] at hl ⊢
 clear hm hp hc
 go_enter Tryz.func102,Tryz.ntmps102
 go_wp2
 go_loopw [8] (fun r wr=>∃ k:Nat,r=.int .i64 (k:Int)∧k≤m∧Below w.heap.size w wr∧Hid (hasN (l.take k) n=false)) (fun r _=>m - (intOf r).toNat)
 case atStart=>exact ⟨0,rfl,Nat.zero_le _,Below.refl _ _,by show _=_;simp [hasN]⟩
 case round =>
  obtain ⟨k,rfl,hk,B0,hH⟩:=hrel
  by_cases hlt:k<m
  ·have hlt':(k:Int)<(m:Int):=by omega
   have k0:(0:Int)≤(k:Int):=by omega
   have hkl:k<l.length:=by rw [HM.out];exact hlt
   obtain ⟨b,off,rfl,hc⟩:=HC.out (by omega)
   obtain ⟨c0,c1,c2,c3⟩:=(hc k hkl).later B0
   have hts:hasN (l.take (k+1)) n=(l[k].n==n):=by
    rw [List.take_succ_eq_append_getElem hkl]
    have:=hH.out
    unfold hasN at *
    rw [List.any_append,this]
    simp
   have hsub:(l[k].n==n)=true→hasN l n=true:=fun h=>List.any_eq_true.2 ⟨_,List.getElem_mem hkl,h⟩
   have K1:=K l[k]
   unfold cov at K1
   generalize l[k]=c at *
   obtain ⟨cn,ck,cs,cm⟩:=c
   simp only at *
   cases hb:(cn==n) with
   | true =>
    rw [hb] at K1
    have HS:Hid (hasN l n=true):=hsub hb
    clear hts hsub hb
    go_wp2_with (go_at_call 77;refine (K1 _ B0).mono ?_;rintro e w1 ⟨rfl,b1⟩)
    go_ret
    exact ⟨⟨_,rfl,by rw [HS.out];simp⟩,z0a B0 b1⟩
   | false =>
    rw [hb] at K1 hts
    have HS:Hid (hasN (l.take (k+1)) n=false):=hts
    clear hts hsub hb
    go_wp2_with (go_at_call 77;refine (K1 _ B0).mono ?_;rintro e w1 ⟨rfl,b1⟩)
    go_roundw
    case rel=>exact ⟨k+1,by go_num,by omega,z0a B0 b1,HS⟩
    case measure=>simp [intOf];omega
  ·have hlt':¬ (k:Int)<(m:Int):=by omega
   have hf:hasN l n=false:=by
    have:=hH.out
    rwa [List.take_of_length_le (by rw [HM.out];omega)] at this
   have HS:Hid (hasN l n=false):=hf
   clear hf
   go_wp2
   go_ret
   exact ⟨⟨_,rfl,by rw [HS.out];rfl⟩,B0⟩
theorem namesOne_any (ao:Option Addr) (cap:Nat) (l:List Co) (n:List UInt8) (w:World) (hc:Cw w ao l) (hl:l.length≤140737488351232) :
  Calls Tryz.prog 52 #[.slice ao l.length cap,.string ⟨n.toArray⟩] w fun e w'=>e=.returned (.bool (hasN l n))∧Below w.heap.size w w':=by
 have A0:=(Below.refl w.heap.size w).alloc (Nat.le_refl _) (.cells #[.string ⟨n.toArray⟩] 9)
 have hcell:(w.alloc (.cells #[.string ⟨n.toArray⟩] 9)).cell? ⟨w.heap.size,0,none⟩=some (.string ⟨n.toArray⟩):=by simp [go_sem]
 have CF:∀ W,Below w.heap.size w W→W.cell? ⟨w.heap.size,0,none⟩=some (.string ⟨n.toArray⟩)→Calls Tryz.prog 76 #[.slice ao l.length cap,.func (.func 77) #[] #[.pointer (some ⟨w.heap.size,0,none⟩)]] W fun e w'=>e=.returned (.bool (hasN l n))∧Below W.heap.size W w':=by
  intro W h hp
  have I:=idxF_any ao cap l n w.heap.size W (hc.later h) hl hp
  generalize hasN l n=r at *
  generalize l.length=m at *
  go_enter Tryz.func76,Tryz.ntmps76
  go_wp2_with (go_at_call 102;refine I.mono ?_;rintro e w1 ⟨⟨i,rfl,hi⟩,b1⟩)
  go_ret
  exact ⟨by rw [← hi];rfl,b1⟩
 have CF1:=CF _ A0 hcell
 generalize hasN l n=r at *
 generalize l.length=m at *
 clear CF hc hl
 have hmf:∀ (fn:Fn) (first cap:Array Value) (w:World),(Instr.makeFunc fn first cap).run Tryz.prog w=.ok (.func fn first cap) w:=fun _ _ _ _=>rfl
 generalize ByteArray.mk n.toArray=T at *
 go_enter Tryz.func52,Tryz.ntmps52
 go_wp2_with (go_at_call 76;refine CF1.mono ?_;rintro e w1 ⟨rfl,b1⟩)
 go_ret
 exact ⟨rfl,z0a A0 b1⟩
theorem idxI_any (ao:Option Addr) (cap:Nat) (l:List Int) (v:Int) (w:World) (hc:Iw w ao l) (hl:l.length≤140737488351232) :
  Calls Tryz.prog 36 #[.slice ao l.length cap,.int .i64 v] w fun e w'=>(∃ i:Int,e=.returned (.int .i64 i)∧decide (i ≥ 0)=l.contains v)∧w=w':=by
 obtain ⟨m,hm⟩:∃ m,l.length=m:=⟨_,rfl⟩
 have HM:Hid (l.length=m):=hm
 have HC:Hid (Iw w ao l):=hc
 obtain ⟨R,hR⟩:∃ R,R=l.contains v:=⟨_,rfl⟩
 rw [← hR]
 have HR:Hid (l.contains v=R):=hR.symm
 rw [hm] at hl ⊢
 clear hm hc hR
 go_enter Tryz.func36,Tryz.ntmps36
 go_wp2
 go_loopw [8] (fun r wr=>∃ k:Nat,r=.int .i64 (k:Int)∧k≤m∧wr=w∧Hid ((l.take k).contains v=false)) (fun r _=>m - (intOf r).toNat)
 case atStart=>exact ⟨0,rfl,Nat.zero_le _,rfl,by show _=_;simp⟩
 case round =>
  obtain ⟨k,rfl,hk,rfl,hH⟩:=hrel
  by_cases hlt:k<m
  ·have hlt':(k:Int)<(m:Int):=by omega
   have k0:(0:Int)≤(k:Int):=by omega
   have hkl:k<l.length:=by rw [HM.out];exact hlt
   obtain ⟨b,off,rfl,hc⟩:=HC.out (by omega)
   have c0:=hc k hkl
   clear hc
   have hts:v≠l[k]→(l.take (k+1)).contains v=false:=by
    intro h
    have:=hH.out
    rw [List.take_succ_eq_append_getElem hkl]
    simp only [List.contains_eq_any_beq,List.any_append] at *
    rw [this]
    simpa using h
   have hsub:v=l[k]→R=true:=fun h=>by rw [← HR.out,h];simp
   generalize l[k]=c at *
   by_cases hb:v=c
   ·have HS:Hid (R=true):=hsub hb
    have hb':(v==c)=true:=by simpa using hb
    clear hts hsub hb
    go_wp2
    go_ret
    exact ⟨⟨_,rfl,by rw [HS.out];simp⟩,rfl⟩
   ·have HS:Hid ((l.take (k+1)).contains v=false):=hts hb
    have hb':(v==c)=false:=by simpa using hb
    clear hts hsub hb
    go_wp2
    go_roundw
    case rel=>exact ⟨k+1,by go_num,by omega,by first|rfl|trivial,HS⟩
    case measure=>simp [intOf];omega
  ·have hlt':¬ (k:Int)<(m:Int):=by omega
   have hf:R=false:=by
    have:=hH.out
    rw [List.take_of_length_le (by rw [HM.out];omega)] at this
    rw [← HR.out,this]
   have HS:Hid (R=false):=hf
   clear hf
   go_wp2
   go_ret
   exact ⟨⟨_,rfl,by rw [HS.out];simp⟩,rfl⟩
theorem conI_any (ao:Option Addr) (cap:Nat) (l:List Int) (v:Int) (w:World) (hc:Iw w ao l) (hl:l.length≤140737488351232) :
  Calls Tryz.prog 17 #[.slice ao l.length cap,.int .i64 v] w fun e w'=>e=.returned (.bool (l.contains v))∧w=w':=by
 have I:=idxI_any ao cap l v w hc hl
 generalize l.contains v=r at *
 generalize l.length=m at *
 go_enter Tryz.func17,Tryz.ntmps17
 go_wp2_with (go_at_call 36;refine I.mono ?_;rintro e w1 ⟨⟨i,rfl,hi⟩,rfl⟩)
 go_ret
 exact ⟨by rw [← hi];rfl,rfl⟩
def clO0:Oper:=⟨some 20,.load 53 (.tmp 4),53, "schema.go:71",#[],none⟩
def clO1:Oper:=⟨some 21,.call { callee:=Callee.value (Operand.func 51),args:=#[.tmp 20],argTypes:=#[53] },4, "schema.go:71",#[⟨0,.data⟩],none⟩
def clO2:Oper:=⟨some 22,.unOp UnOp.not 4 (.tmp 21),4, "schema.go:71",#[⟨1,.data⟩],none⟩
def clO3:Oper:=⟨some 23,.move (.tmp 22),4, "schema.go:71",#[⟨2,.data⟩,⟨1,.chain⟩],none⟩
def clO4:Oper:=⟨some 24,.move (.tmp 0),30, "schema.go:71",#[⟨3,.guard⟩],some (3,false)⟩
def clO5:Oper:=⟨some 25,.move (.tmp 3),3, "schema.go:71",#[⟨3,.guard⟩],some (3,false)⟩
def clO6:Oper:=⟨some 26,.slice 30 (.tmp 24) none (some (.tmp 25)) none,30, "schema.go:71",#[⟨4,.data⟩,⟨5,.data⟩,⟨3,.guard⟩],some (3,false)⟩
def clO7:Oper:=⟨some 27,.fieldAddr 53 (.tmp 4) 0,0, "schema.go:71",#[⟨3,.guard⟩],some (3,false)⟩
def clO8:Oper:=⟨some 28,.load 9 (.tmp 27),9, "schema.go:71",#[⟨7,.data⟩,⟨3,.guard⟩],some (3,false)⟩
def clO9:Oper:=⟨some 29,.call { callee:=Callee.value (Operand.func 52),args:=#[.tmp 26,.tmp 28],argTypes:=#[30,9] },4, "schema.go:71",#[⟨6,.data⟩,⟨8,.data⟩,⟨3,.chain⟩,⟨3,.guard⟩],some (3,false)⟩
def clO10:Oper:=⟨some 30,.pick (.tmp 23) (.const (Value.bool true)) (.tmp 29),4, "schema.go:71",#[⟨3,.data⟩,⟨9,.data⟩],none⟩
def z9h (l:List Co):Prop:=0<l.length∧l.length≤16∧∀ i (h:i<l.length),colK l[i]=true∧hasN (l.take i) l[i].n=false
instance (l:List Co):Decidable (z9h l):=by unfold z9h;infer_instance
def colsK (l:List Co):Bool:=decide (z9h l)
theorem columnsR_any (ao:Option Addr) (cap:Nat) (l:List Co) (w:World) (hc:Cw w ao l) (hl:l.length≤140737488351232) (hcap:l.length≤cap) (hs:∀ c∈l,c.n.length≤140737488351232) :
  Calls Tryz.prog 30 #[.slice ao l.length cap] w fun e w'=>e=.returned (.bool (colsK l))∧Below w.heap.size w w':=by
 obtain ⟨R,hR⟩:∃ R,R=colsK l:=⟨_,rfl⟩
 rw [← hR]
 have HT:Hid (z9h l→R=true):=fun h=>by rw [hR];exact decide_eq_true h
 have HF:Hid (¬ z9h l→R=false):=fun h=>by rw [hR];exact decide_eq_false h
 have CRa:∀ c∈l,∀ W,_:=fun c h W=>column_any c W (hs c h)
 have NOa:∀ k,k<l.length→∀ n W,Below w.heap.size w W→Calls Tryz.prog 52 #[.slice ao k cap,.string ⟨n.toArray⟩] W fun e w'=>e=.returned (.bool (hasN (l.take k) n))∧Below W.heap.size W w':=fun k hk n W h=>by
  have:=namesOne_any ao cap (l.take k) n W ((hc.later h).take k) (by rw [List.length_take];omega)
  rwa [List.length_take,Nat.min_eq_left (by omega)] at this
 obtain ⟨m,hm⟩:∃ m,l.length=m:=⟨_,rfl⟩
 have HM:Hid (l.length=m):=hm
 have HC:Hid (Cw w ao l):=hc
 have HCR:Hid (∀ c∈l,∀ W,Calls Tryz.prog 51 #[cov c] W fun e w'=>e=.returned (.bool (colK c))∧Below W.heap.size W w'):=CRa
 have HNO:Hid (∀ k,k<l.length→∀ n W,Below w.heap.size w W→Calls Tryz.prog 52 #[.slice ao k cap,.string ⟨n.toArray⟩] W fun e w'=>e=.returned (.bool (hasN (l.take k) n))∧Below W.heap.size W w'):=NOa
 rw [hm] at hl hcap ⊢
 clear hm hc hR hs CRa NOa
 by_cases h0:m=0
 ·have HS:Hid (R=false):=HF.out (fun h=>by have:=h.1;rw [HM.out] at this;omega)
  subst h0
  go_enter Tryz.func30,Tryz.ntmps30
  go_wp2
  go_ret
  exact ⟨by rw [HS.out];rfl,Below.refl _ _⟩
 have h0':¬ (m:Int)=0:=by omega
 have h0b:((m:Int)==0)=false:=by simpa using h0'
 by_cases h16:16<m
 ·have HS:Hid (R=false):=HF.out (fun h=>by have:=h.2.1;rw [HM.out] at this;omega)
  have h1:(16:Int)<(m:Int):=by omega
  clear h0'
  go_enter Tryz.func30,Tryz.ntmps30
  go_wp2
  go_ret
  exact ⟨by rw [HS.out];rfl,Below.refl _ _⟩
 have h1:¬ (16:Int)<(m:Int):=by omega
 clear h0'
 go_enter Tryz.func30,Tryz.ntmps30
 go_wp2
 go_loopw [15] (fun r wr=>∃ k:Nat,r=.int .i64 (k:Int)∧k≤m∧Below w.heap.size w wr∧Hid (∀ i (h:i<l.length),i<k→colK l[i]=true∧hasN (l.take i) l[i].n=false)) (fun r _=>m - (intOf r).toNat)
 case atStart=>exact ⟨0,rfl,Nat.zero_le _,Below.refl _ _,fun i h h2=>by omega⟩
 case round =>
  obtain ⟨k,rfl,hk,B0,hH⟩:=hrel
  by_cases hlt:k<m
  ·have hlt':(k:Int)<(m:Int):=by omega
   have k0:(0:Int)≤(k:Int):=by omega
   have hkl:k<l.length:=by rw [HM.out];exact hlt
   have hkc:k≤cap:=by omega
   obtain ⟨b,off,rfl,hcc⟩:=HC.out (by omega)
   obtain ⟨c0,c1,c2,c3⟩:=(hcc k hkl).later B0
   clear hcc
   have CR:=HCR.out l[k] (List.getElem_mem hkl)
   have NO:=HNO.out k hkl l[k].n
   have hgo:colK l[k]=true→hasN (l.take k) l[k].n=false→∀ i (h:i<l.length),i<k+1→colK l[i]=true∧hasN (l.take i) l[i].n=false:=fun a1 a2 i h h2=>by
    by_cases e:i=k
    ·subst e;exact ⟨a1,a2⟩
    ·exact hH.out i h (by omega)
   have hb1:colK l[k]=false→¬ z9h l:=fun a1 h=>by have:=(h.2.2 k hkl).1;rw [a1] at this;cases this
   have hb2:hasN (l.take k) l[k].n=true→¬ z9h l:=fun a1 h=>by have:=(h.2.2 k hkl).2;rw [a1] at this;cases this
   unfold cov at CR
   generalize hasN (l.take k) l[k].n=p at *
   generalize colK l[k]=q at *
   generalize l[k]=c at *
   obtain ⟨cn,ck,cs,cm⟩:=c
   simp only at *
   generalize ByteArray.mk cn.toArray=NB at *
   have b01:Below wr.heap.size wr (wr.alloc (.cells #[.string NB,.int .i64 ck,.int .i64 cs,.bool cm] 53)):=(Below.refl _ _).alloc (Nat.le_refl _) _
   have A1:Cbox (wr.alloc (.cells #[.string NB,.int .i64 ck,.int .i64 cs,.bool cm] 53)) wr.heap.size #[.string NB,.int .i64 ck,.int .i64 cs,.bool cm] 53:=Cbox.new wr _ _
   have B1:=z0a B0 b01
   cases q with
   | false =>
    have HS:Hid (R=false):=HF.out (hb1 rfl)
    clear hgo hb1 hb2 NO
    go_upto_region 6 with fail
    generalize wr.alloc (.cells #[.string NB,.int .i64 ck,.int .i64 cs,.bool cm] 53)=w1 at *
    clear c0 c1 c2 c3
    refine wp_region_held_drew (S:=(fun W=>Cbox W wr.heap.size #[.string NB,.int .i64 ck,.int .i64 cs,.bool cm] 53)) gK ?_ (fun hHeld=>?_)
    ·((try dsimp only);first|exact A1|exact A1.later ((Below.refl _ w1).drew))
    refine wpAnyH_take (i:=0) (oi:=clO0) (v:=?_) rfl gK gK gK (fun _ _ _ h=>h) (Or.inl ⟨by rfl,?_⟩) (by assumption) ?_
    rotate_left
    ·(intro W hSw;(try dsimp only at hSw);have z0:=hSw.at 0;have z1:=hSw.at 1;have z2:=hSw.at 2;have z3:=hSw.at 3;try simp only [clO0];first|(go_simp;done)|(go_simp;with_reducible rfl))
    try simp only [clO0,Act.put,List.setIfInBounds_toArray,List.set_cons_zero,List.set_cons_succ]
    refine wpAnyH_ready (rs:=[1]) gK (by simp) ?_
    refine AllReadyH.cons (o:=clO1) rfl (fun K hK=>?_) AllReadyH.nil
    try simp only [clO1]
    go_simp
    (refine (CR _).mono ?_;rintro e w2 ⟨rfl,b2⟩;have d2:Below w1.heap.size w1 w2:=(by first|exact z0a ((Below.refl _ w1).drew) b2|exact b2);have B2:=z0a B1 d2;have A2:=A1.later d2)
    refine hK.out _ _ ?_ (fun hHeld=>?_)
    ·((try dsimp only);first|exact A3|exact A2)
    clear hK K
    try simp only [Act.put,sA,sB,sC]
    refine wpAnyH_take (i:=2) (oi:=clO2) (v:=?_) rfl gK gK gK (fun _ _ _ h=>h) (Or.inl ⟨by rfl,?_⟩) (by assumption) ?_
    rotate_left
    ·(intro W hSw;(try dsimp only at hSw);try simp only [clO2];first|(go_simp;done)|(go_simp;with_reducible rfl))
    try simp only [clO2,Act.put,List.setIfInBounds_toArray,List.set_cons_zero,List.set_cons_succ]
    refine wpAnyH_take (i:=3) (oi:=clO3) (v:=?_) rfl gK gK gK (fun _ _ _ h=>h) (Or.inl ⟨by rfl,?_⟩) (by assumption) ?_
    rotate_left
    ·(intro W hSw;(try dsimp only at hSw);try simp only [clO3];first|(go_simp;done)|(go_simp;with_reducible rfl))
    try simp only [clO3,Act.put,List.setIfInBounds_toArray,List.set_cons_zero,List.set_cons_succ]
    refine wpAnyH_take (i:=4) (oi:=clO4) (v:=undef) rfl gK gK gK (fun _ _ _ h=>h) (Or.inr ⟨by rfl,rfl⟩) (by assumption) ?_
    try simp only [clO4,Act.put,List.setIfInBounds_toArray,List.set_cons_zero,List.set_cons_succ]
    refine wpAnyH_take (i:=5) (oi:=clO5) (v:=undef) rfl gK gK gK (fun _ _ _ h=>h) (Or.inr ⟨by rfl,rfl⟩) (by assumption) ?_
    try simp only [clO5,Act.put,List.setIfInBounds_toArray,List.set_cons_zero,List.set_cons_succ]
    refine wpAnyH_take (i:=6) (oi:=clO6) (v:=undef) rfl gK gK gK (fun _ _ _ h=>h) (Or.inr ⟨by rfl,rfl⟩) (by assumption) ?_
    try simp only [clO6,Act.put,List.setIfInBounds_toArray,List.set_cons_zero,List.set_cons_succ]
    refine wpAnyH_take (i:=7) (oi:=clO7) (v:=undef) rfl gK gK gK (fun _ _ _ h=>h) (Or.inr ⟨by rfl,rfl⟩) (by assumption) ?_
    try simp only [clO7,Act.put,List.setIfInBounds_toArray,List.set_cons_zero,List.set_cons_succ]
    refine wpAnyH_take (i:=8) (oi:=clO8) (v:=undef) rfl gK gK gK (fun _ _ _ h=>h) (Or.inr ⟨by rfl,rfl⟩) (by assumption) ?_
    try simp only [clO8,Act.put,List.setIfInBounds_toArray,List.set_cons_zero,List.set_cons_succ]
    refine wpAnyH_take (i:=9) (oi:=clO9) (v:=undef) rfl gK gK gK (fun _ _ _ h=>h) (Or.inr ⟨by rfl,rfl⟩) (by assumption) ?_
    try simp only [clO9,Act.put,List.setIfInBounds_toArray,List.set_cons_zero,List.set_cons_succ]
    refine wpAnyH_take (i:=10) (oi:=clO10) (v:=?_) rfl gK gK gK (fun _ _ _ h=>h) (Or.inl ⟨by rfl,?_⟩) (by assumption) ?_
    rotate_left
    ·(intro W hSw;(try dsimp only at hSw);try simp only [clO10];first|(go_simp;done)|(go_simp;with_reducible rfl))
    try simp only [clO10,Act.put,List.setIfInBounds_toArray,List.set_cons_zero,List.set_cons_succ]
    refine wpAnyH_done gK ?_ _
    go_wp2
    go_ret
    exact ⟨by rw [HS.out];rfl,B2⟩
   | true =>
    cases p with
    | true =>
     have HS:Hid (R=false):=HF.out (hb2 rfl)
     clear hgo hb1 hb2
     go_upto_region 6 with fail
     generalize wr.alloc (.cells #[.string NB,.int .i64 ck,.int .i64 cs,.bool cm] 53)=w1 at *
     clear c0 c1 c2 c3
     refine wp_region_held_drew (S:=(fun W=>Cbox W wr.heap.size #[.string NB,.int .i64 ck,.int .i64 cs,.bool cm] 53)) gK ?_ (fun hHeld=>?_)
     ·((try dsimp only);first|exact A1|exact A1.later ((Below.refl _ w1).drew))
     refine wpAnyH_take (i:=0) (oi:=clO0) (v:=?_) rfl gK gK gK (fun _ _ _ h=>h) (Or.inl ⟨by rfl,?_⟩) (by assumption) ?_
     rotate_left
     ·(intro W hSw;(try dsimp only at hSw);have z0:=hSw.at 0;have z1:=hSw.at 1;have z2:=hSw.at 2;have z3:=hSw.at 3;try simp only [clO0];first|(go_simp;done)|(go_simp;with_reducible rfl))
     try simp only [clO0,Act.put,List.setIfInBounds_toArray,List.set_cons_zero,List.set_cons_succ]
     refine wpAnyH_ready (rs:=[1]) gK (by simp) ?_
     refine AllReadyH.cons (o:=clO1) rfl (fun K hK=>?_) AllReadyH.nil
     try simp only [clO1]
     go_simp
     (refine (CR _).mono ?_;rintro e w2 ⟨rfl,b2⟩;have d2:Below w1.heap.size w1 w2:=(by first|exact z0a ((Below.refl _ w1).drew) b2|exact b2);have B2:=z0a B1 d2;have A2:=A1.later d2)
     refine hK.out _ _ ?_ (fun hHeld=>?_)
     ·((try dsimp only);first|exact A3|exact A2)
     clear hK K
     try simp only [Act.put,sA,sB,sC]
     refine wpAnyH_take (i:=2) (oi:=clO2) (v:=?_) rfl gK gK gK (fun _ _ _ h=>h) (Or.inl ⟨by rfl,?_⟩) (by assumption) ?_
     rotate_left
     ·(intro W hSw;(try dsimp only at hSw);try simp only [clO2];first|(go_simp;done)|(go_simp;with_reducible rfl))
     try simp only [clO2,Act.put,List.setIfInBounds_toArray,List.set_cons_zero,List.set_cons_succ]
     refine wpAnyH_take (i:=3) (oi:=clO3) (v:=?_) rfl gK gK gK (fun _ _ _ h=>h) (Or.inl ⟨by rfl,?_⟩) (by assumption) ?_
     rotate_left
     ·(intro W hSw;(try dsimp only at hSw);try simp only [clO3];first|(go_simp;done)|(go_simp;with_reducible rfl))
     try simp only [clO3,Act.put,List.setIfInBounds_toArray,List.set_cons_zero,List.set_cons_succ]
     refine wpAnyH_take (i:=4) (oi:=clO4) (v:=?_) rfl gK gK gK (fun _ _ _ h=>h) (Or.inl ⟨by rfl,?_⟩) (by assumption) ?_
     rotate_left
     ·(intro W hSw;(try dsimp only at hSw);try simp only [clO4];first|(go_simp;done)|(go_simp;with_reducible rfl))
     try simp only [clO4,Act.put,List.setIfInBounds_toArray,List.set_cons_zero,List.set_cons_succ]
     refine wpAnyH_take (i:=5) (oi:=clO5) (v:=?_) rfl gK gK gK (fun _ _ _ h=>h) (Or.inl ⟨by rfl,?_⟩) (by assumption) ?_
     rotate_left
     ·(intro W hSw;(try dsimp only at hSw);try simp only [clO5];first|(go_simp;done)|(go_simp;with_reducible rfl))
     try simp only [clO5,Act.put,List.setIfInBounds_toArray,List.set_cons_zero,List.set_cons_succ]
     refine wpAnyH_take (i:=6) (oi:=clO6) (v:=?_) rfl gK gK gK (fun _ _ _ h=>h) (Or.inl ⟨by rfl,?_⟩) (by assumption) ?_
     rotate_left
     ·(intro W hSw;(try dsimp only at hSw);try simp only [clO6];first|(go_simp;done)|(go_simp;with_reducible rfl))
     try simp only [clO6,Act.put,List.setIfInBounds_toArray,List.set_cons_zero,List.set_cons_succ]
     refine wpAnyH_take (i:=7) (oi:=clO7) (v:=?_) rfl gK gK gK (fun _ _ _ h=>h) (Or.inl ⟨by rfl,?_⟩) (by assumption) ?_
     rotate_left
     ·(intro W hSw;(try dsimp only at hSw);try simp only [clO7];first|(go_simp;done)|(go_simp;with_reducible rfl))
     try simp only [clO7,Act.put,List.setIfInBounds_toArray,List.set_cons_zero,List.set_cons_succ]
     refine wpAnyH_take (i:=8) (oi:=clO8) (v:=?_) rfl gK gK gK (fun _ _ _ h=>h) (Or.inl ⟨by rfl,?_⟩) (by assumption) ?_
     rotate_left
     ·(intro W hSw;(try dsimp only at hSw);have z0:=hSw.at 0;have z1:=hSw.at 1;have z2:=hSw.at 2;have z3:=hSw.at 3;try simp only [clO8];first|(go_simp;done)|(go_simp;with_reducible rfl))
     try simp only [clO8,Act.put,List.setIfInBounds_toArray,List.set_cons_zero,List.set_cons_succ]
     refine wpAnyH_ready (rs:=[9]) gK (by simp) ?_
     refine AllReadyH.cons (o:=clO9) rfl (fun K hK=>?_) AllReadyH.nil
     try simp only [clO9]
     go_simp
     (refine (NO _ B2).mono ?_;rintro e w3 ⟨rfl,b3⟩;have B3:=z0a B2 b3;have A3:=A2.later b3)
     refine hK.out _ _ ?_ (fun hHeld=>?_)
     ·((try dsimp only);first|exact A3|exact A2)
     clear hK K
     try simp only [Act.put,sA,sB,sC]
     refine wpAnyH_take (i:=10) (oi:=clO10) (v:=?_) rfl gK gK gK (fun _ _ _ h=>h) (Or.inl ⟨by rfl,?_⟩) (by assumption) ?_
     rotate_left
     ·(intro W hSw;(try dsimp only at hSw);try simp only [clO10];first|(go_simp;done)|(go_simp;with_reducible rfl))
     try simp only [clO10,Act.put,List.setIfInBounds_toArray,List.set_cons_zero,List.set_cons_succ]
     refine wpAnyH_done gK ?_ _
     go_wp2
     go_ret
     exact ⟨by rw [HS.out];rfl,B3⟩
    | false =>
     have HS:Hid (∀ i (h:i<l.length),i<k+1→colK l[i]=true∧hasN (l.take i) l[i].n=false):=hgo rfl rfl
     clear hgo hb1 hb2
     go_upto_region 6 with fail
     generalize wr.alloc (.cells #[.string NB,.int .i64 ck,.int .i64 cs,.bool cm] 53)=w1 at *
     clear c0 c1 c2 c3
     refine wp_region_held_drew (S:=(fun W=>Cbox W wr.heap.size #[.string NB,.int .i64 ck,.int .i64 cs,.bool cm] 53)) gK ?_ (fun hHeld=>?_)
     ·((try dsimp only);first|exact A1|exact A1.later ((Below.refl _ w1).drew))
     refine wpAnyH_take (i:=0) (oi:=clO0) (v:=?_) rfl gK gK gK (fun _ _ _ h=>h) (Or.inl ⟨by rfl,?_⟩) (by assumption) ?_
     rotate_left
     ·(intro W hSw;(try dsimp only at hSw);have z0:=hSw.at 0;have z1:=hSw.at 1;have z2:=hSw.at 2;have z3:=hSw.at 3;try simp only [clO0];first|(go_simp;done)|(go_simp;with_reducible rfl))
     try simp only [clO0,Act.put,List.setIfInBounds_toArray,List.set_cons_zero,List.set_cons_succ]
     refine wpAnyH_ready (rs:=[1]) gK (by simp) ?_
     refine AllReadyH.cons (o:=clO1) rfl (fun K hK=>?_) AllReadyH.nil
     try simp only [clO1]
     go_simp
     (refine (CR _).mono ?_;rintro e w2 ⟨rfl,b2⟩;have d2:Below w1.heap.size w1 w2:=(by first|exact z0a ((Below.refl _ w1).drew) b2|exact b2);have B2:=z0a B1 d2;have A2:=A1.later d2)
     refine hK.out _ _ ?_ (fun hHeld=>?_)
     ·((try dsimp only);first|exact A3|exact A2)
     clear hK K
     try simp only [Act.put,sA,sB,sC]
     refine wpAnyH_take (i:=2) (oi:=clO2) (v:=?_) rfl gK gK gK (fun _ _ _ h=>h) (Or.inl ⟨by rfl,?_⟩) (by assumption) ?_
     rotate_left
     ·(intro W hSw;(try dsimp only at hSw);try simp only [clO2];first|(go_simp;done)|(go_simp;with_reducible rfl))
     try simp only [clO2,Act.put,List.setIfInBounds_toArray,List.set_cons_zero,List.set_cons_succ]
     refine wpAnyH_take (i:=3) (oi:=clO3) (v:=?_) rfl gK gK gK (fun _ _ _ h=>h) (Or.inl ⟨by rfl,?_⟩) (by assumption) ?_
     rotate_left
     ·(intro W hSw;(try dsimp only at hSw);try simp only [clO3];first|(go_simp;done)|(go_simp;with_reducible rfl))
     try simp only [clO3,Act.put,List.setIfInBounds_toArray,List.set_cons_zero,List.set_cons_succ]
     refine wpAnyH_take (i:=4) (oi:=clO4) (v:=?_) rfl gK gK gK (fun _ _ _ h=>h) (Or.inl ⟨by rfl,?_⟩) (by assumption) ?_
     rotate_left
     ·(intro W hSw;(try dsimp only at hSw);try simp only [clO4];first|(go_simp;done)|(go_simp;with_reducible rfl))
     try simp only [clO4,Act.put,List.setIfInBounds_toArray,List.set_cons_zero,List.set_cons_succ]
     refine wpAnyH_take (i:=5) (oi:=clO5) (v:=?_) rfl gK gK gK (fun _ _ _ h=>h) (Or.inl ⟨by rfl,?_⟩) (by assumption) ?_
     rotate_left
     ·(intro W hSw;(try dsimp only at hSw);try simp only [clO5];first|(go_simp;done)|(go_simp;with_reducible rfl))
     try simp only [clO5,Act.put,List.setIfInBounds_toArray,List.set_cons_zero,List.set_cons_succ]
     refine wpAnyH_take (i:=6) (oi:=clO6) (v:=?_) rfl gK gK gK (fun _ _ _ h=>h) (Or.inl ⟨by rfl,?_⟩) (by assumption) ?_
     rotate_left
     ·(intro W hSw;(try dsimp only at hSw);try simp only [clO6];first|(go_simp;done)|(go_simp;with_reducible rfl))
     try simp only [clO6,Act.put,List.setIfInBounds_toArray,List.set_cons_zero,List.set_cons_succ]
     refine wpAnyH_take (i:=7) (oi:=clO7) (v:=?_) rfl gK gK gK (fun _ _ _ h=>h) (Or.inl ⟨by rfl,?_⟩) (by assumption) ?_
     rotate_left
     ·(intro W hSw;(try dsimp only at hSw);try simp only [clO7];first|(go_simp;done)|(go_simp;with_reducible rfl))
     try simp only [clO7,Act.put,List.setIfInBounds_toArray,List.set_cons_zero,List.set_cons_succ]
     refine wpAnyH_take (i:=8) (oi:=clO8) (v:=?_) rfl gK gK gK (fun _ _ _ h=>h) (Or.inl ⟨by rfl,?_⟩) (by assumption) ?_
     rotate_left
     ·(intro W hSw;(try dsimp only at hSw);have z0:=hSw.at 0;have z1:=hSw.at 1;have z2:=hSw.at 2;have z3:=hSw.at 3;try simp only [clO8];first|(go_simp;done)|(go_simp;with_reducible rfl))
     try simp only [clO8,Act.put,List.setIfInBounds_toArray,List.set_cons_zero,List.set_cons_succ]
     refine wpAnyH_ready (rs:=[9]) gK (by simp) ?_
     refine AllReadyH.cons (o:=clO9) rfl (fun K hK=>?_) AllReadyH.nil
     try simp only [clO9]
     go_simp
     (refine (NO _ B2).mono ?_;rintro e w3 ⟨rfl,b3⟩;have B3:=z0a B2 b3;have A3:=A2.later b3)
     refine hK.out _ _ ?_ (fun hHeld=>?_)
     ·((try dsimp only);first|exact A3|exact A2)
     clear hK K
     try simp only [Act.put,sA,sB,sC]
     refine wpAnyH_take (i:=10) (oi:=clO10) (v:=?_) rfl gK gK gK (fun _ _ _ h=>h) (Or.inl ⟨by rfl,?_⟩) (by assumption) ?_
     rotate_left
     ·(intro W hSw;(try dsimp only at hSw);try simp only [clO10];first|(go_simp;done)|(go_simp;with_reducible rfl))
     try simp only [clO10,Act.put,List.setIfInBounds_toArray,List.set_cons_zero,List.set_cons_succ]
     refine wpAnyH_done gK ?_ _
     go_wp2
     go_roundw
     case rel=>exact ⟨k+1,by go_num,by omega,B3,HS⟩
     case measure=>simp [intOf];omega
  ·have hlt':¬ (k:Int)<(m:Int):=by omega
   have HS:Hid (R=true):=HT.out ⟨by rw [HM.out];omega,by rw [HM.out];omega,fun i h=>hH.out i h (by rw [HM.out] at h;omega)⟩
   go_wp2
   go_ret
   exact ⟨by rw [HS.out];rfl,B0⟩
end Go.Proofs.YtljkonkfeiojnaaGreatDoor
