/-
  The reader of expressions: arguments, the closure of call, within at it, and call.
  The reader of expressions: columnOrCall, unit, and all parts of the grammar together.
  The reader of expressions: unit, and all parts of the grammar together, by induction on what is left to read.
-/
import Derived.Test.YtljkonkfeiojnaaGreatDoorMHENt
import Derived.Test.YtljkonkfeiojnaaGreatDoorMCLByte
set_option maxHeartbeats 4000000
set_option maxRecDepth 20000
namespace Go.Proofs.YtljkonkfeiojnaaGreatDoor
open Go.RowKit Go.Shelf
attribute [local go_sem] z0f z0b z0c z0e z0m z0k z0h z0d z0g
theorem Goes.box {p q:Nat} {w w':World} {nv nv':Value} {cs:Array Value} {ty:TypeId} (h:Goes p w w' nv nv') (hc:Cbox w q cs ty) (hq:q≠p) (hr:∀ g,nv.ownBlock=some g→g≠q):Cbox w' q cs ty:=by
 show w'.heap[q]?=_
 rw [h.1.block q (Cbox.lt hc) hq (fun e=>hr q e rfl)]
 exact hc
theorem Goes.row {p q:Nat} {w w':World} {nv nv':Value} (h:Goes p w w' nv nv') (hl:q<w.heap.size) (hr:∀ g,nv.ownBlock=some g→g≠q):∀ g,nv'.ownBlock=some g→g≠q:=by
 intro g hg
 rcases h.2 g hg with e|e
 ·exact hr g e
 ·omega
theorem Goes.setq {p q j:Nat} {wc w:World} {nc nv v:Value} (h:Goes p wc w nc nv) (hq:wc.heap.size≤q):Goes p wc (w.setCell ⟨q,j,none⟩ v) nc nv:=by
 refine ⟨⟨h.1.os,h.1.tape,h.1.output,by have:=h.1.size;simp;omega,fun k hk hp hn=>?_⟩,h.2⟩
 rw [heap_setCell_other w ⟨q,j,none⟩ k v (by show k≠q;omega)]
 exact h.1.block k hk hp hn
theorem Goes.alloc {p:Nat} {wc w:World} {nc nv:Value} (h:Goes p wc w nc nv) (o:Obj):Goes p wc (w.alloc o) nc nv:=h.trans (Goes.of_fr (Fr.of_below ((Below.refl _ w).alloc (Nat.le_refl _) o) p none) nv)
theorem Stt.setq {w0:World} {ao:Option Addr} {ts:List Ti} {cap p:Nat} {w:World} {k:Nat} {nv:Value} {acc:List Nd} {o:Nat} (S:Stt w0 ao ts cap p w k nv acc o) (q j:Nat) (v:Value) (hq:w0.heap.size≤q) (hqp:q≠p) (hr:∀ g,nv.ownBlock=some g→g≠q) :
  Stt w0 ao ts cap p (w.setCell ⟨q,j,none⟩ v) k nv acc o:=by
 refine ⟨S.low.setCell hq v,S.hp,?_,?_,S.kl,S.few,S.deep⟩
 ·show (w.setCell ⟨q,j,none⟩ v).heap[p]?=_
  rw [heap_setCell_other w ⟨q,j,none⟩ p v (fun e=>hqp e.symm)]
  exact S.rb
 ·obtain ⟨h1,h2⟩:=S.own
  refine ⟨h1,?_⟩
  rcases h2 with h2|⟨g,cap',cur,rfl,hb,hg,hrr⟩
  ·exact .inl h2
  ·refine .inr ⟨g,cap',cur,rfl,hb,?_,hrr⟩
   rw [heap_setCell_other w ⟨q,j,none⟩ g v (hr g rfl)]
   exact hg
theorem Stt.alloc {w0:World} {ao:Option Addr} {ts:List Ti} {cap p:Nat} {w:World} {k:Nat} {nv:Value} {acc:List Nd} {o:Nat} (S:Stt w0 ao ts cap p w k nv acc o) (ob:Obj):Stt w0 ao ts cap p (w.alloc ob) k nv acc o:=by
 have g:Fr w (w.alloc ob) p none:=Fr.of_below ((Below.refl _ w).alloc (Nat.le_refl _) ob) p none
 exact ⟨g.below S.low S.low.size S.hp (fun k e=>by cases e),S.hp,Cbox.later S.rb ((Below.refl _ w).alloc (Nat.le_refl _) ob),S.own.fr S.rb g,S.kl,S.few,S.deep⟩
theorem Stt.row_lt {w0:World} {ao:Option Addr} {ts:List Ti} {cap p:Nat} {w:World} {k:Nat} {nv:Value} {acc:List Nd} {o:Nat} (S:Stt w0 ao ts cap p w k nv acc o):∀ g,nv.ownBlock=some g→g<w.heap.size:=fun g h=>(World.ownsRow.lt S.own g h).2
theorem Fr.keep {w w':World} {p q:Nat} {cs:Array Value} {ty:TypeId} (h:Fr w w' p none) (hc:Cbox w q cs ty) (hq:q≠p):Cbox w' q cs ty:=by
 show w'.heap[q]?=_
 rw [h.block q (Cbox.lt hc) hq (by simp)]
 exact hc
abbrev Cq (w:World) (q:Nat) (nm:List UInt8) (c:Nat):Prop:=Cbox w q (ncs ⟨19,[],nm,vz0,(c:Int)⟩) 74
theorem cq_set {w:World} {q:Nat} {nm:List UInt8} {c:Nat} (h:Cq w q nm c) (c':Nat):Cq (w.setCell ⟨q,7,none⟩ (.int .i64 (c':Int))) q nm c':=by
 have:=h.set 7 (.int .i64 (c':Int))
 simp only [List.setIfInBounds_toArray,List.set_cons_zero,List.set_cons_succ] at this
 exact this
def cntOf (w:World) (q:Nat):Nat:=match w.cell? ⟨q,7,none⟩ with|some (.int _ n)=>n.toNat|_=>0
theorem cnt_of {w:World} {q:Nat} {nm:List UInt8} {c:Nat} (h:Cq w q nm c):cntOf w q=c:=by
 unfold cntOf
 have e:w.cell? ⟨q,7,none⟩=some (.int .i64 (c:Int)):=h.at 7
 rw [e]
 simp
theorem args_any (w0:World) (ao:Option Addr) (ts:List Ti) (cap p o q k:Nat) (E:Env w0 ao ts) (part:Nat→List Nd→Rz) (nm:List UInt8) (acc:List Nd) (nv nc:Value) (wc w:World)
    (S:Stt w0 ao ts cap p w k nv acc o) (G:Goes p wc w nc nv) (hqc:wc.heap.size≤q) (hq0:w0.heap.size≤q) (hqp:q≠p) (hqr:∀ g,nv.ownBlock=some g→g≠q) (hc:Cq w q nm 0)
    (H:∀ k' acc nv w,Stt w0 ao ts cap p w k' nv acc o→k≤k'→Does w0 ao ts cap p 67 o k' acc nv w (part k' acc)) :
    Calls Tryz.prog 272 #[.pointer (some ⟨p,0,none⟩),.pointer (some ⟨q,0,none⟩)] w fun e w'=>e=.returned (.int .i64 ((z2c (nxt ts) part k acc).1.1:Int)) ∧
      (∃ nv',Stt w0 ao ts cap p w' (z2c (nxt ts) part k acc).1.2.1 nv' (z2c (nxt ts) part k acc).1.2.2 o∧Goes p wc w' nc nv'∧(∀ g,nv'.ownBlock=some g→g≠q))∧Cq w' q nm (z2c (nxt ts) part k acc).2∧k≤(z2c (nxt ts) part k acc).1.2.1:=by
  unfold z2c
  cases h:((nxt ts k).t==[41]) with
  | true =>
    simp only [↓reduceIte]
    have T:=z3f w0 ao ts cap p k o nv acc [41] w E (by decide) S h
    have hl:=hc.lt
    have HC:Hid (Cq w q nm 0):=hc
    clear S h E H hc
    go_enter Tryz.func272,Tryz.ntmps272
    go_wp2_with (go_at_call 179;refine T.mono ?_;rintro e w1 ⟨rfl,S1,g1⟩)
    go_ret
    exact ⟨rfl,⟨nv,S1,G.trans g1,hqr⟩,g1.box HC.out hqp hqr,by omega⟩
  | false =>
    simp only [Bool.false_eq_true,↓reduceIte]
    have T:=z4m w0 ao ts cap p k o nv acc [41] w E (by decide) S h
    obtain ⟨R,hR⟩:∃ R,R=argsL (nxt ts) part 4 k acc 0:=⟨_,rfl⟩
    rw [← hR]
    have HR:Hid (argsL (nxt ts) part (4 - 0) k acc 0=R):=hR.symm
    have HC:Hid (Cq w q nm 0):=hc
    have HE:Hid (Env w0 ao ts):=E
    have HH:Hid (∀ k' acc nv w,Stt w0 ao ts cap p w k' nv acc o→k≤k'→Does w0 ao ts cap p 67 o k' acc nv w (part k' acc)):=H
    clear S h E H hc hR
    go_enter Tryz.func272,Tryz.ntmps272
    go_wp2_with (go_at_call 179;refine T.mono ?_;rintro e w1 ⟨rfl,S1,g1⟩)
    have G1:=G.trans g1
    have C1:=g1.box HC.out hqp hqr
    go_loopw [5] (fun _ wr=>∃ (c k':Nat) (acc':List Nd) (nv':Value),Hid (Cq wr q nm c∧c≤4∧Stt w0 ao ts cap p wr k' nv' acc' o∧Goes p wc wr nc nv'∧(∀ g,nv'.ownBlock=some g→g≠q)∧k≤k'∧argsL (nxt ts) part (4 - c) k' acc' c=R)) (fun _ wr=>4 - cntOf wr q)
    case atStart=>exact ⟨0,k,acc,nv,C1,by omega,S1,G1,hqr,Nat.le_refl _,HR.out⟩
    case round =>
      obtain ⟨c,k',acc',nv',hI⟩:=hrel
      obtain ⟨hc,hc4,S2,G2,hr2,hk2,hA⟩:=hI.out
      have c7:=hc.at 7
      have hlq:=hc.lt
      have hcnt:=cnt_of hc
      have HC2:Hid (Cq wr q nm c):=hc
      by_cases hlt:c<4
      case neg =>
        have hc4':c=4:=by omega
        subst hc4'
        have HF:Hid (R=((30,k',acc'),4)):=hA.symm
        have HS2:Hid (Stt w0 ao ts cap p wr k' nv' acc' o):=S2
        clear hA S2 hI hc S1 g1 G1 C1 HC G HH HR T hcnt
        go_wp2
        go_ret
        have hR:=HF.out
        subst hR
        exact ⟨rfl,⟨nv',HS2.out,G2,hr2⟩,HC2.out,hk2⟩
      · have hlt':(c:Int)<4:=by omega
        have D:=HH.out k' acc' nv' wr S2 hk2
        unfold Does at D
        have hA':(if (part k' acc').1=0 then
          (if (nxt ts (part k' acc').2.1).t==[44] then argsL (nxt ts) part (4 - (c+1)) ((part k' acc').2.1+1) (part k' acc').2.2 (c+1)
           else if (nxt ts (part k' acc').2.1).t==[41] then ((0,(part k' acc').2.1+1,(part k' acc').2.2),c+1)
           else ((30,(part k' acc').2.1,(part k' acc').2.2),c+1))
          else (part k' acc',c))=R:=by
          rw [← hA,show 4 - c=(4 - (c+1))+1 by omega];rfl
        generalize part k' acc'=r at D hA'
        obtain ⟨re,rk,rc⟩:=r
        simp only at D hA'
        have HST:Hid _:=hA'
        clear hA hA' hI hc S1 g1 G1 C1 HC G HH HR T S2
        by_cases hre:re=0
        case neg =>
          have hre':¬ (re:Int)=0:=by omega
          have HF:Hid (R=((re,rk,rc),c)):=by show R=_;rw [← HST.out,if_neg hre]
          clear HST hcnt
          go_wp2_with (go_at_call 67;refine D.mono ?_;rintro e w3 ⟨rfl,⟨n3,S3,g3⟩,hk3⟩)
          go_ret
          have hR:=HF.out
          subst hR
          exact ⟨rfl,⟨n3,S3,G2.trans g3,g3.row hlq hr2⟩,g3.box HC2.out hqp hr2,by simp only;omega⟩
        · subst hre
          have hst2:=HST.out
          rw [if_pos rfl] at hst2
          have e1:((c+1:Nat):Int)=(c:Int)+1:=by omega
          clear HST
          cases hb:((nxt ts rk).t==[44]) with
          | true =>
            have HN:Hid (argsL (nxt ts) part (4 - (c+1)) (rk+1) rc (c+1)=R):=by
              rw [hb] at hst2
              simp only [↓reduceIte] at hst2
              exact hst2
            have TK:Hid (∀ n3 W,Stt w0 ao ts cap p W rk n3 rc o→_):=fun n3 W hS=>z3f w0 ao ts cap p rk o n3 rc [44] W HE.out (by decide) hS hb
            clear hst2 hb HE
            go_wp2_with fail
            refine D.mono ?_
            rintro e w3 ⟨rfl,⟨n3,S3,g3⟩,hk3⟩
            have C3:=g3.box HC2.out hqp hr2
            have hr3:=g3.row hlq hr2
            have C4:=cq_set C3 (c+1)
            have S4:=S3.setq q 7 (.int .i64 ((c+1:Nat):Int)) hq0 hqp hr3
            have G4:=(G2.trans g3).setq (j:=7) (v:=.int .i64 ((c+1:Nat):Int)) hqc
            have T4:=TK.out n3 _ S4
            have d7:=C3.at 7
            have f7:=C3.free 7
            have hl3:=C3.lt
            rw [e1] at C4 S4 G4 T4
            have HC4:Hid (Cq (w3.setCell ⟨q,7,none⟩ (.int .i64 ((c:Int)+1))) q nm (c+1)):=C4
            clear C3 C4 S3 g3 D TK S4
            go_wp2_with fail
            refine T4.mono ?_
            rintro e w5 ⟨rfl,S5,g5⟩
            have C5:=g5.box HC4.out hqp hr3
            have hcnt5:=cnt_of C5
            go_wp2
            exact ⟨⟨c+1,rk+1,rc,n3,C5,by omega,S5,G4.trans g5,hr3,by omega,HN.out⟩,by rw [hcnt,hcnt5];omega⟩
          | false =>
            have HN:Hid (R=(((if (nxt ts rk).t==[41] then (0,rk+1,rc) else (30,rk,rc):Rz)),c+1)):=by
              show R=_
              rw [← hst2,hb]
              simp only [Bool.false_eq_true,↓reduceIte]
              split <;> rfl
            have TK:Hid (∀ n3 W,Stt w0 ao ts cap p W rk n3 rc o→_):=fun n3 W hS=>z4m w0 ao ts cap p rk o n3 rc [44] W HE.out (by decide) hS hb
            have EN:Hid (∀ n3 W,Stt w0 ao ts cap p W rk n3 rc o→Does w0 ao ts cap p 263 o rk rc n3 W (if (nxt ts rk).t==[41] then (0,rk+1,rc) else (30,rk,rc))):=fun n3 W hS=>ended_any w0 ao ts cap p o rk HE.out rc n3 W hS
            generalize (if (nxt ts rk).t==[41] then (0,rk+1,rc) else (30,rk,rc):Rz)=z at HN EN
            obtain ⟨ze,zk,zc⟩:=z
            clear hst2 hb HE hcnt
            go_wp2_with fail
            refine D.mono ?_
            rintro e w3 ⟨rfl,⟨n3,S3,g3⟩,hk3⟩
            have C3:=g3.box HC2.out hqp hr2
            have hr3:=g3.row hlq hr2
            have C4:=cq_set C3 (c+1)
            have S4:=S3.setq q 7 (.int .i64 ((c+1:Nat):Int)) hq0 hqp hr3
            have G4:=(G2.trans g3).setq (j:=7) (v:=.int .i64 ((c+1:Nat):Int)) hqc
            have T4:=TK.out n3 _ S4
            have d7:=C3.at 7
            have f7:=C3.free 7
            have hl3:=C3.lt
            rw [e1] at C4 S4 G4 T4
            have HC4:Hid (Cq (w3.setCell ⟨q,7,none⟩ (.int .i64 ((c:Int)+1))) q nm (c+1)):=C4
            clear C3 C4 S3 g3 D TK S4
            go_wp2_with fail
            refine T4.mono ?_
            rintro e w5 ⟨rfl,S5,g5⟩
            have C5:=g5.box HC4.out hqp hr3
            have hl5:=C5.lt
            have EN5:=EN.out n3 w5 S5
            unfold Does at EN5
            simp only at EN5
            have HC5:Hid (Cq w5 q nm (c+1)):=C5
            clear C5
            go_wp2_with fail
            refine EN5.mono ?_
            rintro e w6 ⟨rfl,⟨n6,S6,g6⟩,hk6⟩
            go_wp2
            go_ret
            have hR:=HN.out
            subst hR
            exact ⟨rfl,⟨n6,S6,(G4.trans g5).trans g6,g6.row hl5 hr3⟩,g6.box HC5.out hqp hr3,by simp only;omega⟩
theorem clo_any (p a q:Nat) (w:World) (r:Rz) (P:Ending→World→Prop) (ha:Cbox w a #[.pointer (some ⟨p,0,none⟩)] 143)
  (H:Calls Tryz.prog 272 #[.pointer (some ⟨p,0,none⟩),.pointer (some ⟨q,0,none⟩)] w fun e w'=>e=.returned (.int .i64 (r.1:Int))∧P e w') :
  Calls Tryz.prog 271 #[.pointer (some ⟨a,0,none⟩),.pointer (some ⟨q,0,none⟩)] w fun e w'=>e=.returned (.int .i64 (r.1:Int))∧P e w':=by
 have c0:=ha.at 0
 have hl:=ha.lt
 go_enter Tryz.func271,Tryz.ntmps271
 go_wp2_with (go_at_call 272;refine H.mono ?_;rintro e w1 ⟨rfl,h1⟩)
 go_ret
 exact ⟨rfl,h1⟩
theorem within_clo (w0:World) (ao:Option Addr) (ts:List Ti) (cap p o a q:Nat) (r:Rz) (c:Nat) (nm:List UInt8) (k:Nat) (acc:List Nd) (nv nc:Value) (wc w:World) (S:Stt w0 ao ts cap p w k nv acc o) (G:Goes p wc w nc nv) (hqr:∀ g,nv.ownBlock=some g→g≠q) (hqp:q≠p) (hap:a≠p) (ha:Cbox w a #[.pointer (some ⟨p,0,none⟩)] 143) (hcq:Cq w q nm 0)
  (H:o<64→∀ W,Stt w0 ao ts cap p W k nv acc (o+1)→Goes p wc W nc nv→Cq W q nm 0→Calls Tryz.prog 272 #[.pointer (some ⟨p,0,none⟩),.pointer (some ⟨q,0,none⟩)] W fun e w'=>e=.returned (.int .i64 (r.1:Int)) ∧
   (∃ nv',Stt w0 ao ts cap p w' r.2.1 nv' r.2.2 (o+1)∧Goes p wc w' nc nv'∧(∀ g,nv'.ownBlock=some g→g≠q))∧Cq w' q nm c∧k≤r.2.1) :
  Calls Tryz.prog 181 #[.pointer (some ⟨p,0,none⟩),.func (.func 271) #[] #[.pointer (some ⟨a,0,none⟩),.pointer (some ⟨q,0,none⟩)]] w fun e w' =>
   e=.returned (.int .i64 (((if o=64 then (38,k,acc) else r:Rz).1:Nat):Int))∧(∃ nv',Stt w0 ao ts cap p w' (if o=64 then (38,k,acc) else r:Rz).2.1 nv' (if o=64 then (38,k,acc) else r:Rz).2.2 o∧Goes p wc w' nc nv'∧(∀ g,nv'.ownBlock=some g→g≠q))∧Cq w' q nm (if o=64 then 0 else c)∧k≤(if o=64 then (38,k,acc) else r:Rz).2.1:=by
 have hl:=S.rb.lt
 have c10:=S.rb.at 10
 have f10:=S.rb.free 10
 have hd:=S.deep
 by_cases ho:o=64
 ·subst ho
  simp only [↓reduceIte]
  have HS:Hid (Stt w0 ao ts cap p w k nv acc 64):=S
  have HQ:Hid (Cq w q nm 0):=hcq
  clear S H ha hcq
  go_enter Tryz.func181,Tryz.ntmps181
  go_wp2
  go_ret
  exact ⟨rfl,⟨nv,HS.out,G,hqr⟩,HQ.out,Nat.le_refl _⟩
 ·simp only [if_neg ho]
  have ho':((o:Int)==64)=false:=by rw [beq_eq_false_iff_ne];omega
  have ho2:(o:Int)<64:=by omega
  have S1:=S.reopen (o+1) (by omega)
  have e1:((o+1:Nat):Int)=(o:Int)+1:=by omega
  have g0:=Goes.of_fr (Fr.set w p 10 (.int .i64 ((o+1:Nat):Int)) none) nv
  have Q1:=Fr.keep (Fr.set w p 10 (.int .i64 ((o+1:Nat):Int)) none) hcq hqp
  have A1:=Fr.keep (Fr.set w p 10 (.int .i64 ((o+1:Nat):Int)) none) ha hap
  have D:=clo_any p a q _ r _ A1 (H (by omega) _ S1 (G.trans g0) Q1)
  rw [e1] at D
  clear S H S1 A1 Q1 g0 ha hcq
  obtain ⟨re,rk,rc⟩:=r
  simp only at D ⊢
  go_enter Tryz.func181,Tryz.ntmps181
  go_wp2_with (go_at_call 271;refine D.mono ?_;rintro e w1 ⟨rfl,⟨n1,S1,g1,hr1⟩,hq1,hk1⟩;have HS1:Hid (Stt w0 ao ts cap p w1 rk n1 rc (o+1)):=S1;have d10:=S1.rb.at 10;have q10:=S1.rb.free 10;have hl1:=S1.rb.lt;rw [e1] at d10;have HQ1:Hid (Cq w1 q nm c):=hq1;clear S1 hq1)
  go_ret
  refine ⟨rfl,⟨n1,?_,?_,hr1⟩,?_,hk1⟩
  ·have:=HS1.out.reopen o (by omega)
   exact this
  ·exact g1.trans (Goes.of_fr (Fr.set w1 p 10 _ none) n1)
  ·exact Fr.keep (Fr.set w1 p 10 _ none) HQ1.out hqp
theorem call_any (w0:World) (ao:Option Addr) (ts:List Ti) (cap p o k:Nat) (E:Env w0 ao ts) (part:Nat→List Nd→Rz) (nm:List UInt8) (acc:List Nd) (nv:Value) (w:World) (S:Stt w0 ao ts cap p w k nv acc o)
  (H:o<64→∀ k' acc nv w,Stt w0 ao ts cap p w k' nv acc (o+1)→k≤k'→Does w0 ao ts cap p 67 (o+1) k' acc nv w (part k' acc)) :
  Calls Tryz.prog 265 #[.pointer (some ⟨p,0,none⟩),.string ⟨nm.toArray⟩] w fun e w' =>
   e=.returned (.int .i64 (((if o=64 then (38,k,putN acc ⟨19,[],nm,vz0,0⟩) else ((z2c (nxt ts) part k acc).1.1,(z2c (nxt ts) part k acc).1.2.1,putN (z2c (nxt ts) part k acc).1.2.2 ⟨19,[],nm,vz0,((z2c (nxt ts) part k acc).2:Int)⟩):Rz).1:Nat):Int)) ∧
   (∃ nv',Stt w0 ao ts cap p w' (if o=64 then (38,k,putN acc ⟨19,[],nm,vz0,0⟩) else ((z2c (nxt ts) part k acc).1.1,(z2c (nxt ts) part k acc).1.2.1,putN (z2c (nxt ts) part k acc).1.2.2 ⟨19,[],nm,vz0,((z2c (nxt ts) part k acc).2:Int)⟩):Rz).2.1 nv' (if o=64 then (38,k,putN acc ⟨19,[],nm,vz0,0⟩) else ((z2c (nxt ts) part k acc).1.1,(z2c (nxt ts) part k acc).1.2.1,putN (z2c (nxt ts) part k acc).1.2.2 ⟨19,[],nm,vz0,((z2c (nxt ts) part k acc).2:Int)⟩):Rz).2.2 o∧Goes p w w' nv nv') ∧
   k≤(if o=64 then (38,k,putN acc ⟨19,[],nm,vz0,0⟩) else ((z2c (nxt ts) part k acc).1.1,(z2c (nxt ts) part k acc).1.2.1,putN (z2c (nxt ts) part k acc).1.2.2 ⟨19,[],nm,vz0,((z2c (nxt ts) part k acc).2:Int)⟩):Rz).2.1:=by
 have hl:=S.rb.lt
 have hw0:=S.low.size
 have hrl:=S.row_lt
 obtain ⟨x,hx⟩:∃ x:Rz × Nat,x=(if o=64 then ((38,k,acc),0) else z2c (nxt ts) part k acc):=⟨_,rfl⟩
 have ex:(if o=64 then (38,k,putN acc ⟨19,[],nm,vz0,0⟩) else ((z2c (nxt ts) part k acc).1.1,(z2c (nxt ts) part k acc).1.2.1,putN (z2c (nxt ts) part k acc).1.2.2 ⟨19,[],nm,vz0,((z2c (nxt ts) part k acc).2:Int)⟩):Rz)=(x.1.1,x.1.2.1,putN x.1.2.2 ⟨19,[],nm,vz0,(x.2:Int)⟩):=by
  rw [hx];split <;> rfl
 rw [ex]
 clear ex
 have S1:=(S.alloc (.cells #[.pointer (some ⟨p,0,none⟩)] 143)).alloc (.cells (ncs ⟨19,[],nm,vz0,0⟩) 74)
 have G1:=(Goes.refl p (w.alloc (.cells #[.pointer (some ⟨p,0,none⟩)] 143)) nv).alloc (.cells (ncs ⟨19,[],nm,vz0,0⟩) 74)
 have G0:Hid (Goes p w (w.alloc (.cells #[.pointer (some ⟨p,0,none⟩)] 143)) nv nv):=(Goes.refl p w nv).alloc _
 have A1:Cbox ((w.alloc (.cells #[.pointer (some ⟨p,0,none⟩)] 143)).alloc (.cells (ncs ⟨19,[],nm,vz0,0⟩) 74)) w.heap.size #[.pointer (some ⟨p,0,none⟩)] 143:=(Cbox.new w _ _).later ((Below.refl _ _).alloc (Nat.le_refl _) _)
 have Q1:Cq ((w.alloc (.cells #[.pointer (some ⟨p,0,none⟩)] 143)).alloc (.cells (ncs ⟨19,[],nm,vz0,0⟩) 74)) (w.heap.size+1) nm 0:=by
  have h:=Cbox.new (w.alloc (.cells #[.pointer (some ⟨p,0,none⟩)] 143)) (ncs ⟨19,[],nm,vz0,0⟩) 74
  rw [World.size_alloc] at h
  exact h
 have hqr:∀ g,nv.ownBlock=some g→g≠w.heap.size+1:=fun g h=>by have:=hrl g h;omega
 have WI:=within_clo w0 ao ts cap p o w.heap.size (w.heap.size+1) (z2c (nxt ts) part k acc).1 (z2c (nxt ts) part k acc).2 nm k acc nv nv (w.alloc (.cells #[.pointer (some ⟨p,0,none⟩)] 143)) _ S1 G1 hqr (by omega) (by omega) A1 Q1
  (fun ho W hS hG hQ=>args_any w0 ao ts cap p (o+1) (w.heap.size+1) k E part nm acc nv nv (w.alloc (.cells #[.pointer (some ⟨p,0,none⟩)] 143)) W hS hG (by simp) (by omega) (by omega) hqr hQ (H ho))
 have er:(if o=64 then (38,k,acc) else (z2c (nxt ts) part k acc).1:Rz)=x.1:=by rw [hx];split <;> rfl
 have ec:(if o=64 then 0 else (z2c (nxt ts) part k acc).2:Nat)=x.2:=by rw [hx];split <;> rfl
 rw [er,ec] at WI
 clear er ec hx H E S S1 G1 A1 Q1
 obtain ⟨⟨xe,xk,xc⟩,xn⟩:=x
 simp only at WI ⊢
 have WI':Calls Tryz.prog 181 #[.pointer (some ⟨p,0,none⟩),.func (.func 271) #[] #[.pointer (some ⟨w.heap.size,0,none⟩),.pointer (some ⟨w.heap.size+1,0,none⟩)]] ((w.alloc (.cells #[.pointer (some ⟨p,0,none⟩)] 143)).alloc (.cells #[.int .i64 19,.string ⟨#[]⟩,.string ⟨nm.toArray⟩,.int .i64 0,.int .i64 0,.int .i64 0,.string ⟨#[]⟩,.int .i64 0] 74)) fun e w' =>
   e=.returned (.int .i64 (xe:Int))∧(∃ nv',Stt w0 ao ts cap p w' xk nv' xc o∧Goes p (w.alloc (.cells #[.pointer (some ⟨p,0,none⟩)] 143)) w' nv nv'∧(∀ g,nv'.ownBlock=some g→g≠w.heap.size+1))∧Cq w' (w.heap.size+1) nm xn∧k≤xk:=WI
 clear WI
 go_enter Tryz.func265,Tryz.ntmps265
 go_wp2_with fail
 refine WI'.mono ?_
 rintro e w1 ⟨rfl,⟨n1,S1,g1,hr1⟩,hq1,hk1⟩
 have z0:=hq1.at 0
 have z1:=hq1.at 1
 have z2:=hq1.at 2
 have z3:=hq1.at 3
 have z4:=hq1.at 4
 have z5:=hq1.at 5
 have z6:=hq1.at 6
 have z7:=hq1.at 7
 have hlq:=hq1.lt
 have a0:w1.cell? ⟨w.heap.size,0,none⟩=some (.pointer (some ⟨p,0,none⟩)):=(g1.box (Cbox.new w #[.pointer (some ⟨p,0,none⟩)] 143) (by omega) (fun g h=>by have:=hrl g h;omega)).at 0
 have PU:Calls Tryz.prog 128 #[.pointer (some ⟨p,0,none⟩),.agg #[.int .i64 19,.string ⟨#[]⟩,.string ⟨nm.toArray⟩,.int .i64 0,.int .i64 0,.int .i64 0,.string ⟨#[]⟩,.int .i64 (xn:Int)]] w1 fun e w'=>e=.returned (.tuple #[])∧∃ nv',Stt w0 ao ts cap p w' xk nv' (putN xc ⟨19,[],nm,vz0,(xn:Int)⟩) o∧Goes p w1 w' n1 nv':=z3s w0 p ao ts cap xk o n1 xc ⟨19,[],nm,vz0,(xn:Int)⟩ w1 S1
 clear WI' S1 hq1
 go_wp2_with fail
 refine PU.mono ?_
 rintro e w2 ⟨rfl,n2,S2,g2⟩
 go_wp2
 go_ret
 exact ⟨rfl,⟨n2,S2,G0.out.trans (g1.trans g2)⟩,hk1⟩
theorem name_yes (w0:World) (ao:Option Addr) (ts:List Ti) (cap p k o:Nat) (nv:Value) (acc:List Nd) (w:World) (E:Env w0 ao ts) (S:Stt w0 ao ts cap p w k nv acc o) (h:nmT (nxt ts k)=true) :
  Calls Tryz.prog 264 #[.pointer (some ⟨p,0,none⟩)] w fun e w'=>e=.returned (.tuple #[.string ⟨(nxt ts k).t.toArray⟩,.bool true])∧Stt w0 ao ts cap p w' (k+1) nv acc o∧Goes p w w' nv nv:=by
 have:=z9e w0 p ao ts cap k o nv acc w E S
 rw [h] at this
 simp only [↓reduceIte] at this
 exact this.mono fun e w' ⟨h1,h2,h3⟩=>⟨h1,h2,Goes.of_fr h3 nv⟩
theorem name_no (w0:World) (ao:Option Addr) (ts:List Ti) (cap p k o:Nat) (nv:Value) (acc:List Nd) (w:World) (E:Env w0 ao ts) (S:Stt w0 ao ts cap p w k nv acc o) (h:nmT (nxt ts k)=false) :
  Calls Tryz.prog 264 #[.pointer (some ⟨p,0,none⟩)] w fun e w'=>e=.returned (.tuple #[.string ⟨#[]⟩,.bool false])∧Stt w0 ao ts cap p w' k nv acc o∧Goes p w w' nv nv:=by
 have:=z9e w0 p ao ts cap k o nv acc w E S
 rw [h] at this
 simp only [Bool.false_eq_true,↓reduceIte] at this
 exact this.mono fun e w' ⟨h1,h2,h3⟩=>⟨h1,h2,Goes.of_fr h3 nv⟩
theorem col_any (w0:World) (ao:Option Addr) (ts:List Ti) (cap p o k:Nat) (E:Env w0 ao ts) (part:Nat→List Nd→Rz) (acc:List Nd) (nv:Value) (w:World) (S:Stt w0 ao ts cap p w k nv acc o)
  (H:o<64→∀ k' acc nv w,Stt w0 ao ts cap p w k' nv acc (o+1)→k+2≤k'→Does w0 ao ts cap p 67 (o+1) k' acc nv w (part k' acc)) :
  Does w0 ao ts cap p 255 o k acc nv w (colF (nxt ts) part k acc o):=by
 unfold colF
 cases h1:nmT (nxt ts k) with
 | false =>
  simp only [Bool.false_eq_true,↓reduceIte]
  have T:=name_no w0 ao ts cap p k o nv acc w E S h1
  clear S E H h1
  unfold Does
  simp only
  go_enter Tryz.func255,Tryz.ntmps255
  go_wp2_with (go_at_call 264;refine T.mono ?_;rintro e w1 ⟨rfl,S1,g1⟩)
  go_ret
  exact ⟨rfl,⟨nv,S1,g1⟩,Nat.le_refl _⟩
 | true =>
  simp only [↓reduceIte]
  have T:=name_yes w0 ao ts cap p k o nv acc w E S h1
  cases h2:((nxt ts (k+1)).t==[40]) with
  | true =>
   simp only [↓reduceIte]
   have T2:Hid (∀ W,Stt w0 ao ts cap p W (k+1) nv acc o→_):=fun W hS=>z3f w0 ao ts cap p (k+1) o nv acc [40] W E (by decide) hS h2
   have CA:Hid (∀ W,Stt w0 ao ts cap p W (k+2) nv acc o→_):=fun W hS=>call_any w0 ao ts cap p o (k+2) E part (nxt ts k).t acc nv W hS H
   generalize (if o=64 then (38,k+2,putN acc ⟨19,[],(nxt ts k).t,vz0,0⟩) else ((z2c (nxt ts) part (k+2) acc).1.1,(z2c (nxt ts) part (k+2) acc).1.2.1,putN (z2c (nxt ts) part (k+2) acc).1.2.2 ⟨19,[],(nxt ts k).t,vz0,((z2c (nxt ts) part (k+2) acc).2:Int)⟩):Rz)=R at CA ⊢
   obtain ⟨re,rk,rc⟩:=R
   simp only at CA
   clear S E H h1 h2
   generalize (nxt ts k).t=nm at *
   unfold Does
   simp only
   go_enter Tryz.func255,Tryz.ntmps255
   go_wp2_with fail
   refine T.mono ?_
   rintro e w1 ⟨rfl,S1,g1⟩
   have T3:=T2.out w1 S1
   go_wp2_with fail
   refine T3.mono ?_
   rintro e w2 ⟨rfl,S2,g2⟩
   have C3:=CA.out w2 S2
   go_wp2_with fail
   refine C3.mono ?_
   rintro e w3 ⟨rfl,⟨n3,S3,g3⟩,hk3⟩
   go_wp2
   go_ret
   exact ⟨rfl,⟨n3,S3,(g1.trans g2).trans g3⟩,by omega⟩
  | false =>
   simp only [Bool.false_eq_true,↓reduceIte]
   have T2:Hid (∀ W,Stt w0 ao ts cap p W (k+1) nv acc o→_):=fun W hS=>z4m w0 ao ts cap p (k+1) o nv acc [40] W E (by decide) hS h2
   cases h3:((nxt ts (k+1)).t==[46]) with
   | false =>
    simp only [Bool.false_eq_true,↓reduceIte]
    have T3:Hid (∀ W,Stt w0 ao ts cap p W (k+1) nv acc o→_):=fun W hS=>z4m w0 ao ts cap p (k+1) o nv acc [46] W E (by decide) hS h3
    clear S E H h1 h2 h3
    generalize (nxt ts k).t=nm at *
    unfold Does
    simp only
    go_enter Tryz.func255,Tryz.ntmps255
    go_wp2_with fail
    refine T.mono ?_
    rintro e w1 ⟨rfl,S1,g1⟩
    have T4:=T2.out w1 S1
    go_wp2_with fail
    refine T4.mono ?_
    rintro e w2 ⟨rfl,S2,g2⟩
    have S3:=S2.alloc (.cells (ncs ⟨2,[],nm,vz0,0⟩) 74)
    have G3:=(Goes.refl p w2 nv).alloc (.cells (ncs ⟨2,[],nm,vz0,0⟩) 74)
    have T5:=T3.out _ S3
    go_wp2_with fail
    refine T5.mono ?_
    rintro e w3 ⟨rfl,S4,g4⟩
    have hl2:=S2.rb.lt
    have hrl:=S2.row_lt
    have B3:=g4.box (Cbox.new w2 (ncs ⟨2,[],nm,vz0,0⟩) 74) (by omega) (fun g h=>by have:=hrl g h;omega)
    have z0:=B3.at 0
    have z1:=B3.at 1
    have z2:=B3.at 2
    have z3:=B3.at 3
    have z4:=B3.at 4
    have z5:=B3.at 5
    have z6:=B3.at 6
    have z7:=B3.at 7
    have hlb:=B3.lt
    have PU:Calls Tryz.prog 128 #[.pointer (some ⟨p,0,none⟩),.agg #[.int .i64 2,.string ⟨#[]⟩,.string ⟨nm.toArray⟩,.int .i64 0,.int .i64 0,.int .i64 0,.string ⟨#[]⟩,.int .i64 0]] w3 fun e w'=>e=.returned (.tuple #[])∧∃ nv',Stt w0 ao ts cap p w' (k+1) nv' (putN acc ⟨2,[],nm,vz0,0⟩) o∧Goes p w3 w' nv nv':=z3s w0 p ao ts cap (k+1) o nv acc ⟨2,[],nm,vz0,0⟩ w3 S4
    have GG:=((g1.trans g2).trans G3).trans g4
    clear B3 S4 S3 S2 S1 T5 T4 g4 G3 g1 g2
    go_wp2_with fail
    refine PU.mono ?_
    rintro e w4 ⟨rfl,n4,S5,g5⟩
    go_wp2
    go_ret
    exact ⟨rfl,⟨n4,S5,GG.trans g5⟩,by omega⟩
   | true =>
    simp only [↓reduceIte]
    have T3:Hid (∀ W,Stt w0 ao ts cap p W (k+1) nv acc o→_):=fun W hS=>z3f w0 ao ts cap p (k+1) o nv acc [46] W E (by decide) hS h3
    cases h4:nmT (nxt ts (k+2)) with
    | true =>
     simp only [↓reduceIte]
     have TN:Hid (∀ W,Stt w0 ao ts cap p W (k+2) nv acc o→_):=fun W hS=>name_yes w0 ao ts cap p (k+2) o nv acc W E hS h4
     clear S E H h1 h2 h3 h4
     generalize (nxt ts k).t=nm at *
     generalize (nxt ts (k+2)).t=cn at *
     unfold Does
     simp only
     go_enter Tryz.func255,Tryz.ntmps255
     go_wp2_with fail
     refine T.mono ?_
     rintro e w1 ⟨rfl,S1,g1⟩
     have T4:=T2.out w1 S1
     go_wp2_with fail
     refine T4.mono ?_
     rintro e w2 ⟨rfl,S2,g2⟩
     have S3:=S2.alloc (.cells (ncs ⟨2,[],nm,vz0,0⟩) 74)
     have G3:=(Goes.refl p w2 nv).alloc (.cells (ncs ⟨2,[],nm,vz0,0⟩) 74)
     have T5:=T3.out _ S3
     go_wp2_with fail
     refine T5.mono ?_
     rintro e w3 ⟨rfl,S4,g4⟩
     have hl2:=S2.rb.lt
     have hrl:=S2.row_lt
     have hlo:=S2.low.size
     have hbp:w2.heap.size≠p:=by omega
     have hbr:∀ g,nv.ownBlock=some g→g≠w2.heap.size:=fun g h=>by have:=hrl g h;omega
     have hb0:w0.heap.size≤w2.heap.size:=hlo
     have hwb:w.heap.size≤w2.heap.size:=(g1.trans g2).1.size
     have B3:=g4.box (Cbox.new w2 (ncs ⟨2,[],nm,vz0,0⟩) 74) hbp hbr
     have y1:=B3.at 1
     have f1:=B3.free 1
     have hlb:=B3.lt
     have B5:Cbox (w3.setCell ⟨w2.heap.size,1,none⟩ (.string ⟨nm.toArray⟩)) w2.heap.size (ncs ⟨2,nm,nm,vz0,0⟩) 74:=by
      have:=B3.set 1 (.string ⟨nm.toArray⟩)
      simp only [List.setIfInBounds_toArray,List.set_cons_zero,List.set_cons_succ] at this
      exact this
     have S5:=S4.setq w2.heap.size 1 (.string ⟨nm.toArray⟩) hb0 hbp hbr
     have GG:=((((g1.trans g2).trans G3).trans g4)).setq (j:=1) (v:=.string ⟨nm.toArray⟩) hwb
     clear B3 S4 S3 S2 S1 T5 T4 g4 G3 g1 g2
     have TN5:=TN.out _ S5
     go_wp2_with fail
     refine TN5.mono ?_
     rintro e w4 ⟨rfl,S6,g6⟩
     have B6:=g6.box B5 hbp hbr
     have x0:=B6.at 0
     have x1:=B6.at 1
     have x2:=B6.at 2
     have x3:=B6.at 3
     have x4:=B6.at 4
     have x5:=B6.at 5
     have x6:=B6.at 6
     have x7:=B6.at 7
     have q2:=B6.free 2
     have hlb6:=B6.lt
     have S7:=S6.setq w2.heap.size 2 (.string ⟨cn.toArray⟩) hb0 hbp hbr
     have G7:=(GG.trans g6).setq (j:=2) (v:=.string ⟨cn.toArray⟩) hwb
     have PU:Calls Tryz.prog 128 #[.pointer (some ⟨p,0,none⟩),.agg #[.int .i64 2,.string ⟨nm.toArray⟩,.string ⟨cn.toArray⟩,.int .i64 0,.int .i64 0,.int .i64 0,.string ⟨#[]⟩,.int .i64 0]] (w4.setCell ⟨w2.heap.size,2,none⟩ (.string ⟨cn.toArray⟩)) fun e w'=>e=.returned (.tuple #[])∧∃ nv',Stt w0 ao ts cap p w' (k+3) nv' (putN acc ⟨2,nm,cn,vz0,0⟩) o∧Goes p (w4.setCell ⟨w2.heap.size,2,none⟩ (.string ⟨cn.toArray⟩)) w' nv nv':=z3s w0 p ao ts cap (k+3) o nv acc ⟨2,nm,cn,vz0,0⟩ _ S7
     clear B6 B5 S7 S6 S5 TN5 GG g6
     go_wp2_with fail
     refine PU.mono ?_
     rintro e w5 ⟨rfl,n5,S8,g8⟩
     go_wp2
     go_ret
     exact ⟨rfl,⟨n5,S8,G7.trans g8⟩,by omega⟩
    | false =>
     simp only [Bool.false_eq_true,↓reduceIte]
     have TN:Hid (∀ W,Stt w0 ao ts cap p W (k+2) nv acc o→_):=fun W hS=>name_no w0 ao ts cap p (k+2) o nv acc W E hS h4
     clear S E H h1 h2 h3 h4
     generalize (nxt ts k).t=nm at *
     unfold Does
     simp only
     go_enter Tryz.func255,Tryz.ntmps255
     go_wp2_with fail
     refine T.mono ?_
     rintro e w1 ⟨rfl,S1,g1⟩
     have T4:=T2.out w1 S1
     go_wp2_with fail
     refine T4.mono ?_
     rintro e w2 ⟨rfl,S2,g2⟩
     have S3:=S2.alloc (.cells (ncs ⟨2,[],nm,vz0,0⟩) 74)
     have G3:=(Goes.refl p w2 nv).alloc (.cells (ncs ⟨2,[],nm,vz0,0⟩) 74)
     have T5:=T3.out _ S3
     go_wp2_with fail
     refine T5.mono ?_
     rintro e w3 ⟨rfl,S4,g4⟩
     have hl2:=S2.rb.lt
     have hrl:=S2.row_lt
     have hlo:=S2.low.size
     have hbp:w2.heap.size≠p:=by omega
     have hbr:∀ g,nv.ownBlock=some g→g≠w2.heap.size:=fun g h=>by have:=hrl g h;omega
     have hb0:w0.heap.size≤w2.heap.size:=hlo
     have hwb:w.heap.size≤w2.heap.size:=(g1.trans g2).1.size
     have B3:=g4.box (Cbox.new w2 (ncs ⟨2,[],nm,vz0,0⟩) 74) hbp hbr
     have y1:=B3.at 1
     have f1:=B3.free 1
     have hlb:=B3.lt
     have B5:Cbox (w3.setCell ⟨w2.heap.size,1,none⟩ (.string ⟨nm.toArray⟩)) w2.heap.size (ncs ⟨2,nm,nm,vz0,0⟩) 74:=by
      have:=B3.set 1 (.string ⟨nm.toArray⟩)
      simp only [List.setIfInBounds_toArray,List.set_cons_zero,List.set_cons_succ] at this
      exact this
     have S5:=S4.setq w2.heap.size 1 (.string ⟨nm.toArray⟩) hb0 hbp hbr
     have GG:=((((g1.trans g2).trans G3).trans g4)).setq (j:=1) (v:=.string ⟨nm.toArray⟩) hwb
     clear B3 S4 S3 S2 S1 T5 T4 g4 G3 g1 g2
     have TN5:=TN.out _ S5
     go_wp2_with fail
     refine TN5.mono ?_
     rintro e w4 ⟨rfl,S6,g6⟩
     have B6:=g6.box B5 hbp hbr
     have x0:=B6.at 0
     have x1:=B6.at 1
     have x2:=B6.at 2
     have x3:=B6.at 3
     have x4:=B6.at 4
     have x5:=B6.at 5
     have x6:=B6.at 6
     have x7:=B6.at 7
     have q2:=B6.free 2
     have hlb6:=B6.lt
     have S7:=S6.setq w2.heap.size 2 (.string ⟨#[]⟩) hb0 hbp hbr
     have G7:=(GG.trans g6).setq (j:=2) (v:=.string ⟨#[]⟩) hwb
     clear B6 B5 S6 S5 TN5 GG g6
     go_wp2
     go_ret
     exact ⟨rfl,⟨nv,S7,G7⟩,by omega⟩
def Pars (w0:World) (ts:List Ti) (V:List UInt8→Option Va):Prop:=V []=none∧∀ k W,Below w0.heap.size w0 W→Calls Tryz.prog 87 #[.string ⟨(nxt ts k).t.toArray⟩] W fun e w'=>e=.returned (dpR (V (nxt ts k).t))∧Below W.heap.size W w'
theorem Stt.later {w0:World} {ao:Option Addr} {ts:List Ti} {cap p:Nat} {w w':World} {k:Nat} {nv:Value} {acc:List Nd} {o:Nat} (S:Stt w0 ao ts cap p w k nv acc o) (h:Below w.heap.size w w'):Stt w0 ao ts cap p w' k nv acc o:=by
 have g:Fr w w' p none:=Fr.of_below h p none
 exact ⟨g.below S.low S.low.size S.hp (fun k e=>by cases e),S.hp,Cbox.later S.rb h,S.own.fr S.rb g,S.kl,S.few,S.deep⟩
theorem un_step (w0:World) (ao:Option Addr) (ts:List Ti) (cap p o:Nat) (E:Env w0 ao ts) (V:List UInt8→Option Va) (PA:Pars w0 ts V) (n k:Nat) (acc:List Nd) (nv:Value) (w:World) (S:Stt w0 ao ts cap p w k nv acc o)
  (H1:o<64→∀ W,Stt w0 ao ts cap p W (k+1) nv acc (o+1)→Does w0 ao ts cap p 240 (o+1) (k+1) acc nv W (rdx (nxt ts) V (ts.length+1) n .un (k+1) acc (o+1)))
  (H2:o<64→∀ W,Stt w0 ao ts cap p W (k+1) nv acc (o+1)→Does w0 ao ts cap p 254 (o+1) (k+1) acc nv W (rdx (nxt ts) V (ts.length+1) n .en (k+1) acc (o+1)))
  (H3:o<64→∀ k' acc nv w,Stt w0 ao ts cap p w k' nv acc (o+1)→k+2≤k'→Does w0 ao ts cap p 67 (o+1) k' acc nv w (rdx (nxt ts) V (ts.length+1) n .ex k' acc (o+1))) :
  Does w0 ao ts cap p 240 o k acc nv w (rdx (nxt ts) V (ts.length+1) (n+1) .un k acc o):=by
 have e0:rdx (nxt ts) V (ts.length+1) (n+1) .un k acc o=(if (nxt ts k).t==[45] then
   (if o=64 then (38,k+1,putN acc (opX 3)) else ((rdx (nxt ts) V (ts.length+1) n .un (k+1) acc (o+1)).1,(rdx (nxt ts) V (ts.length+1) n .un (k+1) acc (o+1)).2.1,putN (rdx (nxt ts) V (ts.length+1) n .un (k+1) acc (o+1)).2.2 (opX 3)))
  else if (nxt ts k).t==[40] then
   (if o=64 then (38,k+1,acc) else rdx (nxt ts) V (ts.length+1) n .en (k+1) acc (o+1))
  else match V (nxt ts k).t with
   | some v=>(0,k+1,putN acc ⟨1,[],[],v,0⟩)
   | none=>colF (nxt ts) (fun k acc=>rdx (nxt ts) V (ts.length+1) n .ex k acc (o+1)) k acc o):=rfl
 rw [e0]
 clear e0
 cases h:((nxt ts k).t==[45]) with
 | true =>
  simp only [↓reduceIte]
  generalize rdx (nxt ts) V (ts.length+1) n .un (k+1) acc (o+1)=r1 at H1 ⊢
  have T:=z3f w0 ao ts cap p k o nv acc [45] w E (by decide) S h
  obtain ⟨q,hq⟩:∃ q,q=(if o=64 then (38,k+1,acc) else r1:Rz):=⟨_,rfl⟩
  have WI:Hid (∀ W,Stt w0 ao ts cap p W (k+1) nv acc o→Calls Tryz.prog 181 #[.pointer (some ⟨p,0,none⟩),.func (.func 240) #[.pointer (some ⟨p,0,none⟩)] #[]] W fun e w' =>
   e=.returned (.int .i64 (q.1:Int))∧(∃ nv',Stt w0 ao ts cap p w' q.2.1 nv' q.2.2 o∧Goes p W w' nv nv')∧k+1≤q.2.1):=fun W h=>by rw [hq];exact within_un w0 ao ts cap p o r1 (k+1) acc nv W h H1
  have e1:(if o=64 then (38,k+1,putN acc (opX 3)) else (r1.1,r1.2.1,putN r1.2.2 (opX 3)):Rz)=(q.1,q.2.1,putN q.2.2 (opX 3)):=by
   rw [hq];split <;> rfl
  rw [e1]
  clear e1 hq H1 H2 H3 S h E PA
  obtain ⟨qe,qk,qc⟩:=q
  unfold Does
  simp only at WI ⊢
  go_enter Tryz.func240,Tryz.ntmps240
  go_wp2_with fail
  refine T.mono ?_
  rintro e w1 ⟨rfl,S1,g1⟩
  have C:=WI.out w1 S1
  go_wp2_with fail
  refine C.mono ?_
  rintro e w2 ⟨rfl,⟨n2,S2,g2⟩,hk2⟩
  have PU:Calls Tryz.prog 128 #[.pointer (some ⟨p,0,none⟩),.agg #[.int .i64 3,.string ⟨#[]⟩,.string ⟨#[]⟩,.int .i64 0,.int .i64 0,.int .i64 0,.string ⟨#[]⟩,.int .i64 0]] w2 _:=z3s w0 p ao ts cap qk o n2 qc (opX 3) w2 S2
  go_wp2_with fail
  refine PU.mono ?_
  rintro e w3 ⟨rfl,n3,S3,g3⟩
  go_wp2
  go_ret
  exact ⟨rfl,⟨n3,S3,(g1.trans g2).trans g3⟩,by omega⟩
 | false =>
  simp only [Bool.false_eq_true,↓reduceIte]
  have T:=z4m w0 ao ts cap p k o nv acc [45] w E (by decide) S h
  cases h2:((nxt ts k).t==[40]) with
  | true =>
   simp only [↓reduceIte]
   generalize rdx (nxt ts) V (ts.length+1) n .en (k+1) acc (o+1)=r1 at H2 ⊢
   have T2:Hid (∀ W,Stt w0 ao ts cap p W k nv acc o→_):=fun W hS=>z3f w0 ao ts cap p k o nv acc [40] W E (by decide) hS h2
   have WI:Hid (∀ W,Stt w0 ao ts cap p W (k+1) nv acc o→_):=fun W h=>within_en w0 ao ts cap p o r1 (k+1) acc nv W h H2
   generalize (if o=64 then (38,k+1,acc) else r1:Rz)=q at WI ⊢
   clear H1 H2 H3 S h h2 E PA
   obtain ⟨qe,qk,qc⟩:=q
   unfold Does
   simp only at WI ⊢
   go_enter Tryz.func240,Tryz.ntmps240
   go_wp2_with fail
   refine T.mono ?_
   rintro e w1 ⟨rfl,S1,g1⟩
   have T3:=T2.out w1 S1
   go_wp2_with fail
   refine T3.mono ?_
   rintro e w2 ⟨rfl,S2,g2⟩
   have C:=WI.out w2 S2
   go_wp2_with fail
   refine C.mono ?_
   rintro e w3 ⟨rfl,⟨n3,S3,g3⟩,hk3⟩
   go_wp2
   go_ret
   exact ⟨rfl,⟨n3,S3,(g1.trans g2).trans g3⟩,by omega⟩
  | false =>
   simp only [Bool.false_eq_true,↓reduceIte]
   have T2:Hid (∀ W,Stt w0 ao ts cap p W k nv acc o→_):=fun W hS=>z4m w0 ao ts cap p k o nv acc [40] W E (by decide) hS h2
   have DP:Hid (∀ W,Below w0.heap.size w0 W→_):=fun W hW=>PA.2 k W hW
   have hx3:Hid (∀ W,Stt w0 ao ts cap p W k nv acc o→W.cell? ⟨p,3,none⟩=some (.string ⟨(nxt ts k).t.toArray⟩)∧p<W.heap.size):=fun W hS=>⟨hS.rb.at 3,hS.rb.lt⟩
   cases hv:V (nxt ts k).t with
   | some v =>
    simp only
    have hk:k<ts.length:=nxt_lt (fun e=>by rw [e,PA.1] at hv;cases hv)
    rw [hv] at DP
    have PS:Hid (∀ W,Stt w0 ao ts cap p W k nv acc o→Calls Tryz.prog 206 #[.pointer (some ⟨p,0,none⟩)] W fun e w'=>e=.returned (.tuple #[])∧Stt w0 ao ts cap p w' (k+1) nv acc o∧Goes p W w' nv nv):=fun W hS=>(pass_any w0 p ao ts cap k (o:Int) _ nv W E hS.low hS.hp hk hS.rb).mono fun e w' ⟨a1,a2,a3⟩=>⟨a1,⟨a3.below hS.low hS.low.size hS.hp (fun k e=>by cases e),hS.hp,a2,hS.own.fr hS.rb a3,hk,hS.few,hS.deep⟩,Goes.of_fr a3 nv⟩
    clear H1 H2 H3 S h h2 E PA hv
    obtain ⟨vk,vn,vm,vb⟩:=v
    generalize (nxt ts k).t=tx at *
    unfold Does
    simp only
    go_enter Tryz.func240,Tryz.ntmps240
    go_wp2_with fail
    refine T.mono ?_
    rintro e w1 ⟨rfl,S1,g1⟩
    have T3:=T2.out w1 S1
    go_wp2_with fail
    refine T3.mono ?_
    rintro e w2 ⟨rfl,S2,g2⟩
    obtain ⟨c3,hl2⟩:=hx3.out w2 S2
    have D2:Calls Tryz.prog 87 #[.string ⟨tx.toArray⟩] w2 fun e w'=>e=.returned (.tuple #[va vk vn vm ⟨vb.toArray⟩,.int .i64 0])∧Below w2.heap.size w2 w':=DP.out w2 S2.low
    go_wp2_with fail
    refine D2.mono ?_
    rintro e w3 ⟨rfl,b3⟩
    have S3:=S2.later b3
    have g3:=Goes.of_fr (Fr.of_below b3 p none) nv
    have S4:=S3.alloc (.cells #[.int .i64 vk,.int .i64 vn,.int .i64 vm,.string ⟨vb.toArray⟩] 44)
    have g4:=(Goes.refl p w3 nv).alloc (.cells #[.int .i64 vk,.int .i64 vn,.int .i64 vm,.string ⟨vb.toArray⟩] 44)
    have P4:=PS.out _ S4
    have hl3:=S3.rb.lt
    have hrl:=S3.row_lt
    go_wp2_with fail
    refine P4.mono ?_
    rintro e w5 ⟨rfl,S5,g5⟩
    have B5:=g5.box (Cbox.new w3 #[.int .i64 vk,.int .i64 vn,.int .i64 vm,.string ⟨vb.toArray⟩] 44) (by omega) (fun g h=>by have:=hrl g h;omega)
    have z0:=B5.at 0
    have z1:=B5.at 1
    have z2:=B5.at 2
    have z3:=B5.at 3
    have hlb:=B5.lt
    have PU:Calls Tryz.prog 128 #[.pointer (some ⟨p,0,none⟩),.agg #[.int .i64 1,.string ⟨#[]⟩,.string ⟨#[]⟩,.int .i64 vk,.int .i64 vn,.int .i64 vm,.string ⟨vb.toArray⟩,.int .i64 0]] w5 fun e w'=>e=.returned (.tuple #[])∧∃ nv',Stt w0 ao ts cap p w' (k+1) nv' (putN acc ⟨1,[],[],⟨vk,vn,vm,vb⟩,0⟩) o∧Goes p w5 w' nv nv':=z3s w0 p ao ts cap (k+1) o nv acc ⟨1,[],[],⟨vk,vn,vm,vb⟩,0⟩ w5 S5
    have GG:=(((g1.trans g2).trans g3).trans g4).trans g5
    clear B5 S5 S4 S3 S2 S1 g1 g2 g3 g4 g5 P4 D2 T3 c3 hl2
    go_wp2_with fail
    refine PU.mono ?_
    rintro e w6 ⟨rfl,n6,S6,g6⟩
    go_wp2
    go_ret
    exact ⟨rfl,⟨n6,S6,GG.trans g6⟩,by omega⟩
   | none =>
    simp only
    rw [hv] at DP
    have CO:Hid (∀ W,Stt w0 ao ts cap p W k nv acc o→Does w0 ao ts cap p 255 o k acc nv W (colF (nxt ts) (fun k acc=>rdx (nxt ts) V (ts.length+1) n .ex k acc (o+1)) k acc o)):=fun W hS=>col_any w0 ao ts cap p o k E _ acc nv W hS H3
    generalize colF (nxt ts) (fun k acc=>rdx (nxt ts) V (ts.length+1) n .ex k acc (o+1)) k acc o=q at CO ⊢
    clear H1 H2 H3 S h h2 E PA hv
    obtain ⟨qe,qk,qc⟩:=q
    generalize (nxt ts k).t=tx at *
    unfold Does
    simp only
    go_enter Tryz.func240,Tryz.ntmps240
    go_wp2_with fail
    refine T.mono ?_
    rintro e w1 ⟨rfl,S1,g1⟩
    have T3:=T2.out w1 S1
    go_wp2_with fail
    refine T3.mono ?_
    rintro e w2 ⟨rfl,S2,g2⟩
    obtain ⟨c3,hl2⟩:=hx3.out w2 S2
    have D2:Calls Tryz.prog 87 #[.string ⟨tx.toArray⟩] w2 fun e w'=>e=.returned (.tuple #[va 0 0 0 ⟨#[]⟩,.int .i64 21])∧Below w2.heap.size w2 w':=DP.out w2 S2.low
    go_wp2_with fail
    refine D2.mono ?_
    rintro e w3 ⟨rfl,b3⟩
    have S3:=S2.later b3
    have g3:=Goes.of_fr (Fr.of_below b3 p none) nv
    have S4:=S3.alloc (.cells #[.int .i64 0,.int .i64 0,.int .i64 0,.string ⟨#[]⟩] 44)
    have g4:=(Goes.refl p w3 nv).alloc (.cells #[.int .i64 0,.int .i64 0,.int .i64 0,.string ⟨#[]⟩] 44)
    have C4:=CO.out _ S4
    unfold Does at C4
    simp only at C4
    go_wp2_with fail
    refine C4.mono ?_
    rintro e w5 ⟨rfl,⟨n5,S5,g5⟩,hk5⟩
    go_wp2
    go_ret
    exact ⟨rfl,⟨n5,S5,(((g1.trans g2).trans g3).trans g4).trans g5⟩,hk5⟩
theorem all_parts (w0:World) (ao:Option Addr) (ts:List Ti) (cap p:Nat) (E:Env w0 ao ts) (V:List UInt8→Option Va) (PA:Pars w0 ts V):∀ (n:Nat) (nt:NT) (k:Nat) (acc:List Nd) (nv:Value) (w:World) (o:Nat),Stt w0 ao ts cap p w k nv acc o→nt.rank+8*(ts.length - k)≤n→Does w0 ao ts cap p (fnOf nt) o k acc nv w (rdx (nxt ts) V (ts.length+1) n nt k acc o):=by
 intro n
 induction n with
 | zero =>
  intro nt k acc nv w o S h
  exfalso
  cases nt <;> simp [NT.rank] at h
 | succ n ih =>
  intro nt k acc nv w o S h
  have hkl:=S.kl
  cases nt with
  | ex=>exact ex_step w0 ao ts cap p o E V n k acc nv w S (fun k' acc nv w S' hk=>ih .an k' acc nv w o S' (by simp only [NT.rank] at h ⊢;omega))
  | an=>exact an_step w0 ao ts cap p o E V n k acc nv w S (fun k' acc nv w S' hk=>ih .no k' acc nv w o S' (by simp only [NT.rank] at h ⊢;omega))
  | su=>exact su_step w0 ao ts cap p o E V n k acc nv w S (fun k' acc nv w S' hk=>ih .te k' acc nv w o S' (by simp only [NT.rank] at h ⊢;omega))
  | te=>exact te_step w0 ao ts cap p o E V n k acc nv w S (fun k' acc nv w S' hk=>ih .un k' acc nv w o S' (by simp only [NT.rank] at h ⊢;omega))
  | no=>exact no_step w0 ao ts cap p o E V n k acc nv w S (fun ho W S'=>ih .no (k+1) acc nv W (o+1) S' (by have:=S'.kl;simp only [NT.rank] at h ⊢;omega)) (fun W S'=>ih .co k acc nv W o S' (by simp only [NT.rank] at h ⊢;omega))
  | co=>exact co_step w0 ao ts cap p o E V n k acc nv w (ih .su k acc nv w o S (by simp only [NT.rank] at h ⊢;omega)) (fun k' acc' nv' W hk S'=>ih .su k' acc' nv' W o S' (by simp only [NT.rank] at h ⊢;omega))
  | un=>exact un_step w0 ao ts cap p o E V PA n k acc nv w S (fun ho W S'=>ih .un (k+1) acc nv W (o+1) S' (by have:=S'.kl;simp only [NT.rank] at h ⊢;omega)) (fun ho W S'=>ih .en (k+1) acc nv W (o+1) S' (by have:=S'.kl;simp only [NT.rank] at h ⊢;omega)) (fun ho k' acc nv w S' hk=>ih .ex k' acc nv w (o+1) S' (by have:=S'.kl;simp only [NT.rank] at h ⊢;omega))
  | en=>exact en_step w0 ao ts cap p o E V n k acc nv w (ih .ex k acc nv w o S (by simp only [NT.rank] at h ⊢;omega))
end Go.Proofs.YtljkonkfeiojnaaGreatDoor
