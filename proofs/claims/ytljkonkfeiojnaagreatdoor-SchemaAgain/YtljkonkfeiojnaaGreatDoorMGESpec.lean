/-
  The reader of expressions: its cells, what changes in memory, and the smallest of its methods.
  The reader of expressions: its state, and the methods pass and took.
  The reader of expressions: put.
  How tokens are read into nodes, as a function: with no program in it but what a node, a token and a sign are.
-/
import Derived.Test.YtljkonkfeiojnaaGreatDoorMFEFit
import Derived.Deep.RegionHeld2
import Derived.Deep.AppendLies
set_option maxHeartbeats 4000000
set_option maxRecDepth 20000
namespace Go.Proofs.YtljkonkfeiojnaaGreatDoor
open Go.RowKit Go.Shelf
attribute [local go_sem] z0f z0b z0c z0e z0m z0k z0h z0d z0g
abbrev tz:Ti:=⟨0,[],vz,0⟩
def nxt (ts:List Ti) (k:Nat):Ti:=match ts[k]? with|some x=>if rtok x then x else tz|none=>tz
abbrev rcs (ao:Option Addr) (n cap:Nat) (k:Int) (x:Ti) (nv:Value) (o:Int):Array Value:=#[.slice ao n cap,.int .i64 k,.int .i64 x.k,.string ⟨x.t.toArray⟩,.int .i64 x.v.k,.int .i64 x.v.n,.int .i64 x.v.m,.string ⟨x.v.b.toArray⟩,.int .i64 x.a,nv,.int .i64 o]
structure Fr (w w':World) (p:Nat) (row:Option Nat):Prop where
 os:w'.os=w.os
 tape:w'.tape=w.tape
 output:w'.output=w.output
 size:w.heap.size≤w'.heap.size
 block:∀ k,k<w.heap.size→k≠p→row≠some k→w'.heap[k]?=w.heap[k]?
theorem Fr.refl (w:World) (p:Nat) (row:Option Nat):Fr w w p row:=⟨rfl,rfl,rfl,Nat.le_refl _,fun _ _ _ _=>rfl⟩
theorem Fr.of_below {w w':World} (h:Below w.heap.size w w') (p:Nat) (row:Option Nat):Fr w w' p row:=⟨h.os,h.tape,h.output,h.size,fun k hk _ _=>h.block k hk⟩
theorem Fr.trans {w w1 w2:World} {p:Nat} {r r1:Option Nat} (h:Fr w w1 p r) (h1:Fr w1 w2 p r1) (hr:∀ k,r1=some k→r=some k∨w.heap.size≤k):Fr w w2 p r:=by
 refine ⟨h1.os.trans h.os,h1.tape.trans h.tape,h1.output.trans h.output,Nat.le_trans h.size h1.size,fun k hk hp hn=>?_⟩
 rw [h1.block k (Nat.lt_of_lt_of_le hk h.size) hp (fun e=>?_)]
 ·exact h.block k hk hp hn
 ·rcases hr k e with h'|h'
  ·exact hn h'
  ·omega
theorem Fr.below {w w':World} {p:Nat} {r:Option Nat} {B:Nat} {w0:World} (h:Fr w w' p r) (hb:Below B w0 w) (hw:B≤w.heap.size) (hp:B≤p) (hr:∀ k,r=some k→B≤k):Below B w0 w':=by
 refine ⟨h.os.trans hb.os,h.tape.trans hb.tape,h.output.trans hb.output,Nat.le_trans hb.size h.size,fun k hk=>?_⟩
 rw [h.block k (by omega) (by omega) (fun e=>by have:=hr k e;omega)]
 exact hb.block k hk
theorem Fr.set (w:World) (p j:Nat) (v:Value) (row:Option Nat):Fr w (w.setCell ⟨p,j,none⟩ v) p row :=
 ⟨rfl,rfl,rfl,by simp,fun k _ hp _=>heap_setCell_other w ⟨p,j,none⟩ k v hp⟩
theorem Cbox.set {w:World} {p:Nat} {cs:Array Value} {ty:TypeId} (h:Cbox w p cs ty) (j:Nat) (v:Value):Cbox (w.setCell ⟨p,j,none⟩ v) p (cs.setIfInBounds j v) ty:=heap_setCell_same w p j cs ty v h
def st7 (w:World) (p:Nat) (x:Ti):World :=
 ((((((w.setCell ⟨p,2,none⟩ (.int .i64 x.k)).setCell ⟨p,3,none⟩ (.string ⟨x.t.toArray⟩)).setCell ⟨p,4,none⟩ (.int .i64 x.v.k)).setCell ⟨p,5,none⟩ (.int .i64 x.v.n)).setCell ⟨p,6,none⟩ (.int .i64 x.v.m)).setCell ⟨p,7,none⟩ (.string ⟨x.v.b.toArray⟩)).setCell ⟨p,8,none⟩ (.int .i64 x.a)
abbrev Rb (w:World) (p:Nat) (ao:Option Addr) (n cap:Nat) (k:Int) (x:Ti) (nv:Value) (o:Int):Prop:=Cbox w p (rcs ao n cap k x nv o) 118
theorem rb_st7 {w:World} {p:Nat} {ao:Option Addr} {n cap:Nat} {k:Int} {y:Ti} {nv:Value} {o:Int} (h:Rb w p ao n cap k y nv o) (x:Ti):Rb (st7 w p x) p ao n cap k x nv o:=by
 have:=((((((h.set 2 (.int .i64 x.k)).set 3 (.string ⟨x.t.toArray⟩)).set 4 (.int .i64 x.v.k)).set 5 (.int .i64 x.v.n)).set 6 (.int .i64 x.v.m)).set 7 (.string ⟨x.v.b.toArray⟩)).set 8 (.int .i64 x.a)
 simp only [List.setIfInBounds_toArray,List.set_cons_zero,List.set_cons_succ] at this
 exact this
theorem st7_fr (w:World) (p:Nat) (x:Ti) (row:Option Nat):Fr w (st7 w p x) p row :=
 ((((((Fr.set w p 2 _ row).trans (Fr.set _ p 3 _ row) fun _ h=>.inl h).trans (Fr.set _ p 4 _ row) fun _ h=>.inl h).trans (Fr.set _ p 5 _ row) fun _ h=>.inl h).trans (Fr.set _ p 6 _ row) fun _ h=>.inl h).trans (Fr.set _ p 7 _ row) fun _ h=>.inl h).trans (Fr.set _ p 8 _ row) fun _ h=>.inl h
def sgn (i:Nat):List UInt8:=match i with
 | 6=>[42]|7=>[47]|8=>[37]|9=>[43]|10=>[45]|11=>[61]|12=>[60,62]|13=>[60]|14=>[60,61]|15=>[62]|16=>[62,61]|17=>[97,110,100]|18=>[111,114]|_=>[]
def Sg (w:World):Prop:=∀ i,i<19→w.cell? ⟨4,i,none⟩=some (.string ⟨(sgn i).toArray⟩)
theorem Sg.later {w w':World} (h:Sg w) (hb:Below w.heap.size w w'):Sg w':=fun i hi=>(hb.cell (p:=⟨4,i,none⟩) (World.block_lt_of_cell? w _ (h i hi))).trans (h i hi)
structure Env (w0:World) (ao:Option Addr) (ts:List Ti):Prop where
 tw:Tw w0 ao ts
 tabs:Tabs w0
 ptab:Ptab w0
 few:ts.length≤4096
 sg:Sg w0
theorem look_any (w0:World) (p:Nat) (ao:Option Addr) (ts:List Ti) (cap k:Nat) (o:Int) (y:Ti) (nv:Value) (w:World) (E:Env w0 ao ts) (hB:Below w0.heap.size w0 w) (hp:w0.heap.size≤p) (h:Rb w p ao ts.length cap (k:Int) y nv o) :
  Calls Tryz.prog 66 #[.pointer (some ⟨p,0,none⟩)] w fun e w'=>e=.returned (.tuple #[])∧Rb w' p ao ts.length cap (k:Int) (nxt ts k) nv o∧Fr w w' p none:=by
 have hl:=h.lt
 have c0:=h.at 0
 have c1:=h.at 1
 have c2:=h.at 2
 have c3:=h.at 3
 have c4:=h.at 4
 have c5:=h.at 5
 have c6:=h.at 6
 have c7:=h.at 7
 have c8:=h.at 8
 have f2:=h.free 2
 have f3:=h.free 3
 have f4:=h.free 4
 have f5:=h.free 5
 have f6:=h.free 6
 have f7:=h.free 7
 have f8:=h.free 8
 have h1:=rb_st7 h tz
 have g1:=st7_fr w p tz none
 have B1:Below w0.heap.size w0 (st7 w p tz):=g1.below hB hB.size hp (fun k e=>by cases e)
 have hfew:=E.few
 obtain ⟨X,hX⟩:∃ X,X=nxt ts k:=⟨_,rfl⟩
 rw [← hX]
 have HX:Hid (X=nxt ts k):=hX
 clear hX
 have R:Hid (∀ (x:Ti) W,Below w0.heap.size w0 W→Calls Tryz.prog 88 #[tiv x] W fun e w'=>e=.returned (.bool (rtok x))∧Below W.heap.size W w'):=fun x W h=>right_any5 x W (E.tabs.later h) (E.ptab.later h)
 have TW:Hid (Tw w0 ao ts):=E.tw
 obtain ⟨n,hn⟩:∃ n,ts.length=n:=⟨_,rfl⟩
 have HN:Hid (ts.length=n):=hn
 rw [hn] at h h1 hfew c0 ⊢
 clear hn E
 go_enter Tryz.func66,Tryz.ntmps66
 go_wp2_with fail
 clear c0 c1 c2 c3 c4 c5 c6 c7 c8 f2 f3 f4 f5 f6 f7 f8
 change Code.wp _ _ _ _ (st7 w p tz)
 generalize st7 w p tz=w1 at *
 by_cases hk:k<n
 case neg =>
  have hk':¬ (k:Int)<(n:Int):=by omega
  have HF:Hid (X=tz):=by
   show X=tz
   rw [HX.out];unfold nxt
   rw [List.getElem?_eq_none (by rw [HN.out];omega)]
  refine wp_region_held_drew (S:=(fun W=>Below w1.heap.size w1 W)) gK ?_ (fun hHeld=>?_)
  ·((try dsimp only);exact (Below.refl _ _).drew)
  refine wpAnyH_take (i:=0) (oi:=⟨some 6,.move (.tmp 0),141, "read.go:57",#[],none⟩) (v:=?_) rfl gK gK gK (fun _ _ _ h=>h) (Or.inl ⟨by rfl,?_⟩) (by assumption) ?_
  rotate_left
  ·(intro W hSw;(try dsimp only at hSw);have C:=Cbox.later h1 hSw;have e0:=C.at 0;have e1:=C.at 1;clear C;first|(go_simp;done)|(go_simp;with_reducible rfl))
  try simp only [Act.put,sA,sB,sC]
  refine wpAnyH_take (i:=1) (oi:=⟨some 7,.nilCheck (.tmp 6),0, "read.go:57",#[⟨0,.data⟩],none⟩) (v:=?_) rfl gK gK gK (fun _ _ _ h=>h) (Or.inl ⟨by rfl,?_⟩) (by assumption) ?_
  rotate_left
  ·(intro W hSw;(try dsimp only at hSw);have C:=Cbox.later h1 hSw;have e0:=C.at 0;have e1:=C.at 1;clear C;first|(go_simp;done)|(go_simp;with_reducible rfl))
  try simp only [Act.put,sA,sB,sC]
  refine wpAnyH_take (i:=2) (oi:=⟨some 8,.fieldAddr 116 (.tmp 7) 1,0, "read.go:57",#[⟨1,.data⟩],none⟩) (v:=?_) rfl gK gK gK (fun _ _ _ h=>h) (Or.inl ⟨by rfl,?_⟩) (by assumption) ?_
  rotate_left
  ·(intro W hSw;(try dsimp only at hSw);have C:=Cbox.later h1 hSw;have e0:=C.at 0;have e1:=C.at 1;clear C;first|(go_simp;done)|(go_simp;with_reducible rfl))
  try simp only [Act.put,sA,sB,sC]
  refine wpAnyH_take (i:=3) (oi:=⟨some 9,.load 3 (.tmp 8),3, "read.go:57",#[⟨2,.data⟩],none⟩) (v:=?_) rfl gK gK gK (fun _ _ _ h=>h) (Or.inl ⟨by rfl,?_⟩) (by assumption) ?_
  rotate_left
  ·(intro W hSw;(try dsimp only at hSw);have C:=Cbox.later h1 hSw;have e0:=C.at 0;have e1:=C.at 1;clear C;first|(go_simp;done)|(go_simp;with_reducible rfl))
  try simp only [Act.put,sA,sB,sC]
  refine wpAnyH_take (i:=4) (oi:=⟨some 10,.move (.tmp 0),141, "read.go:57",#[],none⟩) (v:=?_) rfl gK gK gK (fun _ _ _ h=>h) (Or.inl ⟨by rfl,?_⟩) (by assumption) ?_
  rotate_left
  ·(intro W hSw;(try dsimp only at hSw);have C:=Cbox.later h1 hSw;have e0:=C.at 0;have e1:=C.at 1;clear C;first|(go_simp;done)|(go_simp;with_reducible rfl))
  try simp only [Act.put,sA,sB,sC]
  refine wpAnyH_take (i:=5) (oi:=⟨some 11,.nilCheck (.tmp 10),0, "read.go:57",#[⟨4,.data⟩],none⟩) (v:=?_) rfl gK gK gK (fun _ _ _ h=>h) (Or.inl ⟨by rfl,?_⟩) (by assumption) ?_
  rotate_left
  ·(intro W hSw;(try dsimp only at hSw);have C:=Cbox.later h1 hSw;have e0:=C.at 0;have e1:=C.at 1;clear C;first|(go_simp;done)|(go_simp;with_reducible rfl))
  try simp only [Act.put,sA,sB,sC]
  refine wpAnyH_take (i:=6) (oi:=⟨some 12,.fieldAddr 116 (.tmp 11) 0,0, "read.go:57",#[⟨5,.data⟩],none⟩) (v:=?_) rfl gK gK gK (fun _ _ _ h=>h) (Or.inl ⟨by rfl,?_⟩) (by assumption) ?_
  rotate_left
  ·(intro W hSw;(try dsimp only at hSw);have C:=Cbox.later h1 hSw;have e0:=C.at 0;have e1:=C.at 1;clear C;first|(go_simp;done)|(go_simp;with_reducible rfl))
  try simp only [Act.put,sA,sB,sC]
  refine wpAnyH_take (i:=7) (oi:=⟨some 13,.load 84 (.tmp 12),84, "read.go:57",#[⟨6,.data⟩],none⟩) (v:=?_) rfl gK gK gK (fun _ _ _ h=>h) (Or.inl ⟨by rfl,?_⟩) (by assumption) ?_
  rotate_left
  ·(intro W hSw;(try dsimp only at hSw);have C:=Cbox.later h1 hSw;have e0:=C.at 0;have e1:=C.at 1;clear C;first|(go_simp;done)|(go_simp;with_reducible rfl))
  try simp only [Act.put,sA,sB,sC]
  refine wpAnyH_take (i:=8) (oi:=⟨some 14,.call { callee:=Callee.builtin Builtin.len,args:=#[.tmp 13],argTypes:=#[84] },3, "read.go:57",#[⟨7,.data⟩],none⟩) (v:=?_) rfl gK gK gK (fun _ _ _ h=>h) (Or.inl ⟨by rfl,?_⟩) (by assumption) ?_
  rotate_left
  ·(intro W hSw;(try dsimp only at hSw);have C:=Cbox.later h1 hSw;have e0:=C.at 0;have e1:=C.at 1;clear C;first|(go_simp;done)|(go_simp;with_reducible rfl))
  try simp only [Act.put,sA,sB,sC]
  refine wpAnyH_take (i:=9) (oi:=⟨some 15,.binOp BinOp.lss 3 (.tmp 9) (.tmp 14) 3,4, "read.go:57",#[⟨3,.data⟩,⟨8,.data⟩],none⟩) (v:=?_) rfl gK gK gK (fun _ _ _ h=>h) (Or.inl ⟨by rfl,?_⟩) (by assumption) ?_
  rotate_left
  ·(intro W hSw;(try dsimp only at hSw);have C:=Cbox.later h1 hSw;have e0:=C.at 0;have e1:=C.at 1;clear C;first|(go_simp;done)|(go_simp;with_reducible rfl))
  try simp only [Act.put,sA,sB,sC]
  refine wpAnyH_take (i:=10) (oi:=⟨some 16,.move (.tmp 15),4, "read.go:57",#[⟨9,.data⟩],none⟩) (v:=?_) rfl gK gK gK (fun _ _ _ h=>h) (Or.inl ⟨by rfl,?_⟩) (by assumption) ?_
  rotate_left
  ·(intro W hSw;(try dsimp only at hSw);have C:=Cbox.later h1 hSw;have e0:=C.at 0;have e1:=C.at 1;clear C;first|(go_simp;done)|(go_simp;with_reducible rfl))
  try simp only [Act.put,sA,sB,sC]
  refine wpAnyH_take (i:=11) (oi:=⟨some 17,.move (.tmp 0),141, "read.go:57",#[⟨10,.guard⟩],some (10,true)⟩) (v:=undef) rfl gK gK gK (fun _ _ _ h=>h) (Or.inr ⟨by rfl,rfl⟩) (by assumption) ?_
  try simp only [Act.put,sA,sB,sC]
  refine wpAnyH_take (i:=12) (oi:=⟨some 18,.nilCheck (.tmp 17),0, "read.go:57",#[⟨11,.data⟩,⟨10,.guard⟩],some (10,true)⟩) (v:=undef) rfl gK gK gK (fun _ _ _ h=>h) (Or.inr ⟨by rfl,rfl⟩) (by assumption) ?_
  try simp only [Act.put,sA,sB,sC]
  refine wpAnyH_take (i:=13) (oi:=⟨some 19,.fieldAddr 116 (.tmp 18) 0,0, "read.go:57",#[⟨12,.data⟩,⟨10,.guard⟩],some (10,true)⟩) (v:=undef) rfl gK gK gK (fun _ _ _ h=>h) (Or.inr ⟨by rfl,rfl⟩) (by assumption) ?_
  try simp only [Act.put,sA,sB,sC]
  refine wpAnyH_take (i:=14) (oi:=⟨some 20,.load 84 (.tmp 19),84, "read.go:57",#[⟨13,.data⟩,⟨10,.guard⟩],some (10,true)⟩) (v:=undef) rfl gK gK gK (fun _ _ _ h=>h) (Or.inr ⟨by rfl,rfl⟩) (by assumption) ?_
  try simp only [Act.put,sA,sB,sC]
  refine wpAnyH_take (i:=15) (oi:=⟨some 21,.move (.tmp 0),141, "read.go:57",#[⟨10,.guard⟩],some (10,true)⟩) (v:=undef) rfl gK gK gK (fun _ _ _ h=>h) (Or.inr ⟨by rfl,rfl⟩) (by assumption) ?_
  try simp only [Act.put,sA,sB,sC]
  refine wpAnyH_take (i:=16) (oi:=⟨some 22,.nilCheck (.tmp 21),0, "read.go:57",#[⟨15,.data⟩,⟨10,.guard⟩],some (10,true)⟩) (v:=undef) rfl gK gK gK (fun _ _ _ h=>h) (Or.inr ⟨by rfl,rfl⟩) (by assumption) ?_
  try simp only [Act.put,sA,sB,sC]
  refine wpAnyH_take (i:=17) (oi:=⟨some 23,.fieldAddr 116 (.tmp 22) 1,0, "read.go:57",#[⟨16,.data⟩,⟨10,.guard⟩],some (10,true)⟩) (v:=undef) rfl gK gK gK (fun _ _ _ h=>h) (Or.inr ⟨by rfl,rfl⟩) (by assumption) ?_
  try simp only [Act.put,sA,sB,sC]
  refine wpAnyH_take (i:=18) (oi:=⟨some 24,.load 3 (.tmp 23),3, "read.go:57",#[⟨17,.data⟩,⟨10,.guard⟩],some (10,true)⟩) (v:=undef) rfl gK gK gK (fun _ _ _ h=>h) (Or.inr ⟨by rfl,rfl⟩) (by assumption) ?_
  try simp only [Act.put,sA,sB,sC]
  refine wpAnyH_take (i:=19) (oi:=⟨some 25,.indexAddr 84 (.tmp 20) (.tmp 24),0, "read.go:57",#[⟨14,.data⟩,⟨18,.data⟩,⟨10,.guard⟩],some (10,true)⟩) (v:=undef) rfl gK gK gK (fun _ _ _ h=>h) (Or.inr ⟨by rfl,rfl⟩) (by assumption) ?_
  try simp only [Act.put,sA,sB,sC]
  refine wpAnyH_take (i:=20) (oi:=⟨some 26,.load 112 (.tmp 25),112, "read.go:57",#[⟨19,.data⟩,⟨10,.guard⟩],some (10,true)⟩) (v:=undef) rfl gK gK gK (fun _ _ _ h=>h) (Or.inr ⟨by rfl,rfl⟩) (by assumption) ?_
  try simp only [Act.put,sA,sB,sC]
  refine wpAnyH_take (i:=21) (oi:=⟨some 27,.call { callee:=Callee.value (Operand.func 88),args:=#[.tmp 26],argTypes:=#[112] },4, "read.go:57",#[⟨20,.data⟩,⟨10,.chain⟩,⟨10,.guard⟩],some (10,true)⟩) (v:=undef) rfl gK gK gK (fun _ _ _ h=>h) (Or.inr ⟨by rfl,rfl⟩) (by assumption) ?_
  try simp only [Act.put,sA,sB,sC]
  refine wpAnyH_take (i:=22) (oi:=⟨some 28,.pick (.tmp 16) (.tmp 27) (.const (Value.bool false)),4, "read.go:57",#[⟨10,.data⟩,⟨21,.data⟩],none⟩) (v:=?_) rfl gK gK gK (fun _ _ _ h=>h) (Or.inl ⟨by rfl,?_⟩) (by assumption) ?_
  rotate_left
  ·(intro W hSw;(try dsimp only at hSw);have C:=Cbox.later h1 hSw;have e0:=C.at 0;have e1:=C.at 1;clear C;first|(go_simp;done)|(go_simp;with_reducible rfl))
  try simp only [Act.put,sA,sB,sC]
  refine wpAnyH_done gK ?_ _
  go_wp2
  go_end0
  refine ⟨rfl,?_,?_⟩
  ·rw [HF.out];exact Cbox.later h1 hHeld
  ·exact g1.trans (Fr.of_below hHeld p none) fun _ h=>.inl h
 ·have hk':(k:Int)<(n:Int):=by omega
  have hk0:(0:Int)≤(k:Int):=by omega
  have hkl:k<ts.length:=by rw [HN.out];exact hk
  obtain ⟨b,off,rfl,hc⟩:=TW.out (by omega)
  have TT:Hid (T7 w1 b (off+k*7) ts[k]):=(hc k hkl).later B1
  have hgb:=(hc k hkl).lt
  have hXe:X=if rtok ts[k] then ts[k] else tz:=by
   rw [HX.out];unfold nxt
   rw [List.getElem?_eq_getElem hkl]
  generalize ts[k]=x at TT hXe
  obtain ⟨xk,xt,xv,xa⟩:=x
  have Rx:=fun W h=>R.out ⟨xk,xt,xv,xa⟩ W h
  obtain ⟨r,hr⟩:∃ r,r=rtok ⟨xk,xt,xv,xa⟩:=⟨_,rfl⟩
  rw [← hr] at Rx hXe
  have HXE:Hid (X=if r=true then ⟨xk,xt,xv,xa⟩ else tz):=hXe
  clear hr hXe hc R TW HX h
  refine wp_region_held_drew (S:=(fun W=>Below w1.heap.size w1 W)) gK ?_ (fun hHeld=>?_)
  ·((try dsimp only);exact (Below.refl _ _).drew)
  refine wpAnyH_take (i:=0) (oi:=⟨some 6,.move (.tmp 0),141, "read.go:57",#[],none⟩) (v:=?_) rfl gK gK gK (fun _ _ _ h=>h) (Or.inl ⟨by rfl,?_⟩) (by assumption) ?_
  rotate_left
  ·(intro W hSw;(try dsimp only at hSw);have C:=Cbox.later h1 hSw;have e0:=C.at 0;have e1:=C.at 1;clear C;obtain ⟨p0,p1,p2,p3,p4,p5,p6⟩:=T7.later TT.out hSw;first|(go_simp;done)|(go_simp;with_reducible rfl))
  try simp only [Act.put,sA,sB,sC]
  refine wpAnyH_take (i:=1) (oi:=⟨some 7,.nilCheck (.tmp 6),0, "read.go:57",#[⟨0,.data⟩],none⟩) (v:=?_) rfl gK gK gK (fun _ _ _ h=>h) (Or.inl ⟨by rfl,?_⟩) (by assumption) ?_
  rotate_left
  ·(intro W hSw;(try dsimp only at hSw);have C:=Cbox.later h1 hSw;have e0:=C.at 0;have e1:=C.at 1;clear C;obtain ⟨p0,p1,p2,p3,p4,p5,p6⟩:=T7.later TT.out hSw;first|(go_simp;done)|(go_simp;with_reducible rfl))
  try simp only [Act.put,sA,sB,sC]
  refine wpAnyH_take (i:=2) (oi:=⟨some 8,.fieldAddr 116 (.tmp 7) 1,0, "read.go:57",#[⟨1,.data⟩],none⟩) (v:=?_) rfl gK gK gK (fun _ _ _ h=>h) (Or.inl ⟨by rfl,?_⟩) (by assumption) ?_
  rotate_left
  ·(intro W hSw;(try dsimp only at hSw);have C:=Cbox.later h1 hSw;have e0:=C.at 0;have e1:=C.at 1;clear C;obtain ⟨p0,p1,p2,p3,p4,p5,p6⟩:=T7.later TT.out hSw;first|(go_simp;done)|(go_simp;with_reducible rfl))
  try simp only [Act.put,sA,sB,sC]
  refine wpAnyH_take (i:=3) (oi:=⟨some 9,.load 3 (.tmp 8),3, "read.go:57",#[⟨2,.data⟩],none⟩) (v:=?_) rfl gK gK gK (fun _ _ _ h=>h) (Or.inl ⟨by rfl,?_⟩) (by assumption) ?_
  rotate_left
  ·(intro W hSw;(try dsimp only at hSw);have C:=Cbox.later h1 hSw;have e0:=C.at 0;have e1:=C.at 1;clear C;obtain ⟨p0,p1,p2,p3,p4,p5,p6⟩:=T7.later TT.out hSw;first|(go_simp;done)|(go_simp;with_reducible rfl))
  try simp only [Act.put,sA,sB,sC]
  refine wpAnyH_take (i:=4) (oi:=⟨some 10,.move (.tmp 0),141, "read.go:57",#[],none⟩) (v:=?_) rfl gK gK gK (fun _ _ _ h=>h) (Or.inl ⟨by rfl,?_⟩) (by assumption) ?_
  rotate_left
  ·(intro W hSw;(try dsimp only at hSw);have C:=Cbox.later h1 hSw;have e0:=C.at 0;have e1:=C.at 1;clear C;obtain ⟨p0,p1,p2,p3,p4,p5,p6⟩:=T7.later TT.out hSw;first|(go_simp;done)|(go_simp;with_reducible rfl))
  try simp only [Act.put,sA,sB,sC]
  refine wpAnyH_take (i:=5) (oi:=⟨some 11,.nilCheck (.tmp 10),0, "read.go:57",#[⟨4,.data⟩],none⟩) (v:=?_) rfl gK gK gK (fun _ _ _ h=>h) (Or.inl ⟨by rfl,?_⟩) (by assumption) ?_
  rotate_left
  ·(intro W hSw;(try dsimp only at hSw);have C:=Cbox.later h1 hSw;have e0:=C.at 0;have e1:=C.at 1;clear C;obtain ⟨p0,p1,p2,p3,p4,p5,p6⟩:=T7.later TT.out hSw;first|(go_simp;done)|(go_simp;with_reducible rfl))
  try simp only [Act.put,sA,sB,sC]
  refine wpAnyH_take (i:=6) (oi:=⟨some 12,.fieldAddr 116 (.tmp 11) 0,0, "read.go:57",#[⟨5,.data⟩],none⟩) (v:=?_) rfl gK gK gK (fun _ _ _ h=>h) (Or.inl ⟨by rfl,?_⟩) (by assumption) ?_
  rotate_left
  ·(intro W hSw;(try dsimp only at hSw);have C:=Cbox.later h1 hSw;have e0:=C.at 0;have e1:=C.at 1;clear C;obtain ⟨p0,p1,p2,p3,p4,p5,p6⟩:=T7.later TT.out hSw;first|(go_simp;done)|(go_simp;with_reducible rfl))
  try simp only [Act.put,sA,sB,sC]
  refine wpAnyH_take (i:=7) (oi:=⟨some 13,.load 84 (.tmp 12),84, "read.go:57",#[⟨6,.data⟩],none⟩) (v:=?_) rfl gK gK gK (fun _ _ _ h=>h) (Or.inl ⟨by rfl,?_⟩) (by assumption) ?_
  rotate_left
  ·(intro W hSw;(try dsimp only at hSw);have C:=Cbox.later h1 hSw;have e0:=C.at 0;have e1:=C.at 1;clear C;obtain ⟨p0,p1,p2,p3,p4,p5,p6⟩:=T7.later TT.out hSw;first|(go_simp;done)|(go_simp;with_reducible rfl))
  try simp only [Act.put,sA,sB,sC]
  refine wpAnyH_take (i:=8) (oi:=⟨some 14,.call { callee:=Callee.builtin Builtin.len,args:=#[.tmp 13],argTypes:=#[84] },3, "read.go:57",#[⟨7,.data⟩],none⟩) (v:=?_) rfl gK gK gK (fun _ _ _ h=>h) (Or.inl ⟨by rfl,?_⟩) (by assumption) ?_
  rotate_left
  ·(intro W hSw;(try dsimp only at hSw);have C:=Cbox.later h1 hSw;have e0:=C.at 0;have e1:=C.at 1;clear C;obtain ⟨p0,p1,p2,p3,p4,p5,p6⟩:=T7.later TT.out hSw;first|(go_simp;done)|(go_simp;with_reducible rfl))
  try simp only [Act.put,sA,sB,sC]
  refine wpAnyH_take (i:=9) (oi:=⟨some 15,.binOp BinOp.lss 3 (.tmp 9) (.tmp 14) 3,4, "read.go:57",#[⟨3,.data⟩,⟨8,.data⟩],none⟩) (v:=?_) rfl gK gK gK (fun _ _ _ h=>h) (Or.inl ⟨by rfl,?_⟩) (by assumption) ?_
  rotate_left
  ·(intro W hSw;(try dsimp only at hSw);have C:=Cbox.later h1 hSw;have e0:=C.at 0;have e1:=C.at 1;clear C;obtain ⟨p0,p1,p2,p3,p4,p5,p6⟩:=T7.later TT.out hSw;first|(go_simp;done)|(go_simp;with_reducible rfl))
  try simp only [Act.put,sA,sB,sC]
  refine wpAnyH_take (i:=10) (oi:=⟨some 16,.move (.tmp 15),4, "read.go:57",#[⟨9,.data⟩],none⟩) (v:=?_) rfl gK gK gK (fun _ _ _ h=>h) (Or.inl ⟨by rfl,?_⟩) (by assumption) ?_
  rotate_left
  ·(intro W hSw;(try dsimp only at hSw);have C:=Cbox.later h1 hSw;have e0:=C.at 0;have e1:=C.at 1;clear C;obtain ⟨p0,p1,p2,p3,p4,p5,p6⟩:=T7.later TT.out hSw;first|(go_simp;done)|(go_simp;with_reducible rfl))
  try simp only [Act.put,sA,sB,sC]
  refine wpAnyH_take (i:=11) (oi:=⟨some 17,.move (.tmp 0),141, "read.go:57",#[⟨10,.guard⟩],some (10,true)⟩) (v:=?_) rfl gK gK gK (fun _ _ _ h=>h) (Or.inl ⟨by rfl,?_⟩) (by assumption) ?_
  rotate_left
  ·(intro W hSw;(try dsimp only at hSw);have C:=Cbox.later h1 hSw;have e0:=C.at 0;have e1:=C.at 1;clear C;obtain ⟨p0,p1,p2,p3,p4,p5,p6⟩:=T7.later TT.out hSw;first|(go_simp;done)|(go_simp;with_reducible rfl))
  try simp only [Act.put,sA,sB,sC]
  refine wpAnyH_take (i:=12) (oi:=⟨some 18,.nilCheck (.tmp 17),0, "read.go:57",#[⟨11,.data⟩,⟨10,.guard⟩],some (10,true)⟩) (v:=?_) rfl gK gK gK (fun _ _ _ h=>h) (Or.inl ⟨by rfl,?_⟩) (by assumption) ?_
  rotate_left
  ·(intro W hSw;(try dsimp only at hSw);have C:=Cbox.later h1 hSw;have e0:=C.at 0;have e1:=C.at 1;clear C;obtain ⟨p0,p1,p2,p3,p4,p5,p6⟩:=T7.later TT.out hSw;first|(go_simp;done)|(go_simp;with_reducible rfl))
  try simp only [Act.put,sA,sB,sC]
  refine wpAnyH_take (i:=13) (oi:=⟨some 19,.fieldAddr 116 (.tmp 18) 0,0, "read.go:57",#[⟨12,.data⟩,⟨10,.guard⟩],some (10,true)⟩) (v:=?_) rfl gK gK gK (fun _ _ _ h=>h) (Or.inl ⟨by rfl,?_⟩) (by assumption) ?_
  rotate_left
  ·(intro W hSw;(try dsimp only at hSw);have C:=Cbox.later h1 hSw;have e0:=C.at 0;have e1:=C.at 1;clear C;obtain ⟨p0,p1,p2,p3,p4,p5,p6⟩:=T7.later TT.out hSw;first|(go_simp;done)|(go_simp;with_reducible rfl))
  try simp only [Act.put,sA,sB,sC]
  refine wpAnyH_take (i:=14) (oi:=⟨some 20,.load 84 (.tmp 19),84, "read.go:57",#[⟨13,.data⟩,⟨10,.guard⟩],some (10,true)⟩) (v:=?_) rfl gK gK gK (fun _ _ _ h=>h) (Or.inl ⟨by rfl,?_⟩) (by assumption) ?_
  rotate_left
  ·(intro W hSw;(try dsimp only at hSw);have C:=Cbox.later h1 hSw;have e0:=C.at 0;have e1:=C.at 1;clear C;obtain ⟨p0,p1,p2,p3,p4,p5,p6⟩:=T7.later TT.out hSw;first|(go_simp;done)|(go_simp;with_reducible rfl))
  try simp only [Act.put,sA,sB,sC]
  refine wpAnyH_take (i:=15) (oi:=⟨some 21,.move (.tmp 0),141, "read.go:57",#[⟨10,.guard⟩],some (10,true)⟩) (v:=?_) rfl gK gK gK (fun _ _ _ h=>h) (Or.inl ⟨by rfl,?_⟩) (by assumption) ?_
  rotate_left
  ·(intro W hSw;(try dsimp only at hSw);have C:=Cbox.later h1 hSw;have e0:=C.at 0;have e1:=C.at 1;clear C;obtain ⟨p0,p1,p2,p3,p4,p5,p6⟩:=T7.later TT.out hSw;first|(go_simp;done)|(go_simp;with_reducible rfl))
  try simp only [Act.put,sA,sB,sC]
  refine wpAnyH_take (i:=16) (oi:=⟨some 22,.nilCheck (.tmp 21),0, "read.go:57",#[⟨15,.data⟩,⟨10,.guard⟩],some (10,true)⟩) (v:=?_) rfl gK gK gK (fun _ _ _ h=>h) (Or.inl ⟨by rfl,?_⟩) (by assumption) ?_
  rotate_left
  ·(intro W hSw;(try dsimp only at hSw);have C:=Cbox.later h1 hSw;have e0:=C.at 0;have e1:=C.at 1;clear C;obtain ⟨p0,p1,p2,p3,p4,p5,p6⟩:=T7.later TT.out hSw;first|(go_simp;done)|(go_simp;with_reducible rfl))
  try simp only [Act.put,sA,sB,sC]
  refine wpAnyH_take (i:=17) (oi:=⟨some 23,.fieldAddr 116 (.tmp 22) 1,0, "read.go:57",#[⟨16,.data⟩,⟨10,.guard⟩],some (10,true)⟩) (v:=?_) rfl gK gK gK (fun _ _ _ h=>h) (Or.inl ⟨by rfl,?_⟩) (by assumption) ?_
  rotate_left
  ·(intro W hSw;(try dsimp only at hSw);have C:=Cbox.later h1 hSw;have e0:=C.at 0;have e1:=C.at 1;clear C;obtain ⟨p0,p1,p2,p3,p4,p5,p6⟩:=T7.later TT.out hSw;first|(go_simp;done)|(go_simp;with_reducible rfl))
  try simp only [Act.put,sA,sB,sC]
  refine wpAnyH_take (i:=18) (oi:=⟨some 24,.load 3 (.tmp 23),3, "read.go:57",#[⟨17,.data⟩,⟨10,.guard⟩],some (10,true)⟩) (v:=?_) rfl gK gK gK (fun _ _ _ h=>h) (Or.inl ⟨by rfl,?_⟩) (by assumption) ?_
  rotate_left
  ·(intro W hSw;(try dsimp only at hSw);have C:=Cbox.later h1 hSw;have e0:=C.at 0;have e1:=C.at 1;clear C;obtain ⟨p0,p1,p2,p3,p4,p5,p6⟩:=T7.later TT.out hSw;first|(go_simp;done)|(go_simp;with_reducible rfl))
  try simp only [Act.put,sA,sB,sC]
  refine wpAnyH_take (i:=19) (oi:=⟨some 25,.indexAddr 84 (.tmp 20) (.tmp 24),0, "read.go:57",#[⟨14,.data⟩,⟨18,.data⟩,⟨10,.guard⟩],some (10,true)⟩) (v:=?_) rfl gK gK gK (fun _ _ _ h=>h) (Or.inl ⟨by rfl,?_⟩) (by assumption) ?_
  rotate_left
  ·(intro W hSw;(try dsimp only at hSw);have C:=Cbox.later h1 hSw;have e0:=C.at 0;have e1:=C.at 1;clear C;obtain ⟨p0,p1,p2,p3,p4,p5,p6⟩:=T7.later TT.out hSw;first|(go_simp;done)|(go_simp;with_reducible rfl))
  try simp only [Act.put,sA,sB,sC]
  refine wpAnyH_take (i:=20) (oi:=⟨some 26,.load 112 (.tmp 25),112, "read.go:57",#[⟨19,.data⟩,⟨10,.guard⟩],some (10,true)⟩) (v:=?_) rfl gK gK gK (fun _ _ _ h=>h) (Or.inl ⟨by rfl,?_⟩) (by assumption) ?_
  rotate_left
  ·(intro W hSw;(try dsimp only at hSw);have C:=Cbox.later h1 hSw;have e0:=C.at 0;have e1:=C.at 1;clear C;obtain ⟨p0,p1,p2,p3,p4,p5,p6⟩:=T7.later TT.out hSw;first|(go_simp;done)|(go_simp;with_reducible rfl))
  try simp only [Act.put,sA,sB,sC]
  refine wpAnyH_ready (rs:=[21]) gK (by simp) ?_
  refine AllReadyH.cons (o:=⟨some 27,.call { callee:=Callee.value (Operand.func 88),args:=#[.tmp 26],argTypes:=#[112] },4, "read.go:57",#[⟨20,.data⟩,⟨10,.chain⟩,⟨10,.guard⟩],some (10,true)⟩) rfl (fun K hK=>?_) AllReadyH.nil
  go_simp
  go_wp2_with (go_at_call 88;refine (Rx _ (z0a B1 hHeld)).mono ?_;rintro e w2 ⟨rfl,b2⟩)
  refine hK.out _ _ ?_ (fun hHeld=>?_)
  ·((try dsimp only);exact z0a hHeld b2)
  clear hK K
  try simp only [Act.put,sA,sB,sC]
  refine wpAnyH_take (i:=22) (oi:=⟨some 28,.pick (.tmp 16) (.tmp 27) (.const (Value.bool false)),4, "read.go:57",#[⟨10,.data⟩,⟨21,.data⟩],none⟩) (v:=?_) rfl gK gK gK (fun _ _ _ h=>h) (Or.inl ⟨by rfl,?_⟩) (by assumption) ?_
  rotate_left
  ·(intro W hSw;(try dsimp only at hSw);have C:=Cbox.later h1 hSw;have e0:=C.at 0;have e1:=C.at 1;clear C;obtain ⟨p0,p1,p2,p3,p4,p5,p6⟩:=T7.later TT.out hSw;first|(go_simp;done)|(go_simp;with_reducible rfl))
  try simp only [Act.put,sA,sB,sC]
  refine wpAnyH_done gK ?_ _
  clear Rx
  have h2:=Cbox.later h1 hHeld
  have g2:Fr w w2 p none:=g1.trans (Fr.of_below hHeld p none) fun _ h=>.inl h
  obtain ⟨p0,p1,p2,p3,p4,p5,p6⟩:=T7.later TT.out hHeld
  have hgb2:b<w2.heap.size:=by have:=B1.size;have:=hHeld.size;omega
  cases r with
  | false =>
   go_wp2
   go_end0
   refine ⟨rfl,?_,g2⟩
   rw [HXE.out,if_neg (by simp)];exact h2
  | true =>
   have c0:=h2.at 0
   have c1:=h2.at 1
   have c2:=h2.at 2
   have c3:=h2.at 3
   have c4:=h2.at 4
   have c5:=h2.at 5
   have c6:=h2.at 6
   have c7:=h2.at 7
   have c8:=h2.at 8
   have f2:=h2.free 2
   have f3:=h2.free 3
   have f4:=h2.free 4
   have f5:=h2.free 5
   have f6:=h2.free 6
   have f7:=h2.free 7
   have f8:=h2.free 8
   have hl2:=h2.lt
   have h3:=rb_st7 h2 ⟨xk,xt,xv,xa⟩
   have g3:=st7_fr w2 p ⟨xk,xt,xv,xa⟩ none
   have hbp:¬ b=p:=by omega
   have hpb:¬ p=b:=by omega
   have HXF:Hid (X=⟨xk,xt,xv,xa⟩):=by
    show X=_
    rw [HXE.out,if_pos rfl]
   clear HXE
   go_wp2
   refine wp_region_held_drew (S:=(fun W=>W.cell? ⟨p,0,none⟩=some (.slice (some ⟨b,off,none⟩) n cap)∧W.cell? ⟨p,1,none⟩=some (.int .i64 (k:Int))∧W.cell? ⟨b,off+k*7,none⟩=some (.int .i64 xk)∧W.cell? ⟨b,off+k*7+1,none⟩=some (.string ⟨xt.toArray⟩)∧W.cell? ⟨b,off+k*7+2,none⟩=some (.int .i64 xv.k)∧W.cell? ⟨b,off+k*7+3,none⟩=some (.int .i64 xv.n)∧W.cell? ⟨b,off+k*7+4,none⟩=some (.int .i64 xv.m)∧W.cell? ⟨b,off+k*7+5,none⟩=some (.string ⟨xv.b.toArray⟩)∧W.cell? ⟨b,off+k*7+6,none⟩=some (.int .i64 xa))) gK ?_ (fun hHeld=>?_)
   ·((try dsimp only);(simp (maxDischargeDepth:=12) [go_sem,c0,c1,p0,p1,p2,p3,p4,p5,p6]))
   refine wpAnyH_take (i:=0) (oi:=⟨some 29,.move (.tmp 0),141, "read.go:58",#[],none⟩) (v:=?_) rfl gK gK gK (fun _ _ _ h=>h) (Or.inl ⟨by rfl,?_⟩) (by assumption) ?_
   rotate_left
   ·(intro W hSw;(try dsimp only at hSw);first|(go_simp;done)|(go_simp;with_reducible rfl))
   try simp only [Act.put,sA,sB,sC]
   refine wpAnyH_take (i:=1) (oi:=⟨some 30,.move (.tmp 0),141, "read.go:58",#[],none⟩) (v:=?_) rfl gK gK gK (fun _ _ _ h=>h) (Or.inl ⟨by rfl,?_⟩) (by assumption) ?_
   rotate_left
   ·(intro W hSw;(try dsimp only at hSw);first|(go_simp;done)|(go_simp;with_reducible rfl))
   try simp only [Act.put,sA,sB,sC]
   refine wpAnyH_take (i:=2) (oi:=⟨some 31,.nilCheck (.tmp 30),0, "read.go:58",#[⟨1,.data⟩],none⟩) (v:=?_) rfl gK gK gK (fun _ _ _ h=>h) (Or.inl ⟨by rfl,?_⟩) (by assumption) ?_
   rotate_left
   ·(intro W hSw;(try dsimp only at hSw);first|(go_simp;done)|(go_simp;with_reducible rfl))
   try simp only [Act.put,sA,sB,sC]
   refine wpAnyH_take (i:=3) (oi:=⟨some 32,.fieldAddr 116 (.tmp 31) 0,0, "read.go:58",#[⟨2,.data⟩],none⟩) (v:=?_) rfl gK gK gK (fun _ _ _ h=>h) (Or.inl ⟨by rfl,?_⟩) (by assumption) ?_
   rotate_left
   ·(intro W hSw;(try dsimp only at hSw);first|(go_simp;done)|(go_simp;with_reducible rfl))
   try simp only [Act.put,sA,sB,sC]
   refine wpAnyH_take (i:=4) (oi:=⟨some 33,.load 84 (.tmp 32),84, "read.go:58",#[⟨3,.data⟩],none⟩) (v:=?_) rfl gK gK gK (fun _ _ _ h=>h) (Or.inl ⟨by rfl,?_⟩) (by assumption) ?_
   rotate_left
   ·(intro W hSw;(try dsimp only at hSw);first|(go_simp;done)|(go_simp;with_reducible rfl))
   try simp only [Act.put,sA,sB,sC]
   refine wpAnyH_take (i:=5) (oi:=⟨some 34,.move (.tmp 0),141, "read.go:58",#[],none⟩) (v:=?_) rfl gK gK gK (fun _ _ _ h=>h) (Or.inl ⟨by rfl,?_⟩) (by assumption) ?_
   rotate_left
   ·(intro W hSw;(try dsimp only at hSw);first|(go_simp;done)|(go_simp;with_reducible rfl))
   try simp only [Act.put,sA,sB,sC]
   refine wpAnyH_take (i:=6) (oi:=⟨some 35,.nilCheck (.tmp 34),0, "read.go:58",#[⟨5,.data⟩],none⟩) (v:=?_) rfl gK gK gK (fun _ _ _ h=>h) (Or.inl ⟨by rfl,?_⟩) (by assumption) ?_
   rotate_left
   ·(intro W hSw;(try dsimp only at hSw);first|(go_simp;done)|(go_simp;with_reducible rfl))
   try simp only [Act.put,sA,sB,sC]
   refine wpAnyH_take (i:=7) (oi:=⟨some 36,.fieldAddr 116 (.tmp 35) 1,0, "read.go:58",#[⟨6,.data⟩],none⟩) (v:=?_) rfl gK gK gK (fun _ _ _ h=>h) (Or.inl ⟨by rfl,?_⟩) (by assumption) ?_
   rotate_left
   ·(intro W hSw;(try dsimp only at hSw);first|(go_simp;done)|(go_simp;with_reducible rfl))
   try simp only [Act.put,sA,sB,sC]
   refine wpAnyH_take (i:=8) (oi:=⟨some 37,.load 3 (.tmp 36),3, "read.go:58",#[⟨7,.data⟩],none⟩) (v:=?_) rfl gK gK gK (fun _ _ _ h=>h) (Or.inl ⟨by rfl,?_⟩) (by assumption) ?_
   rotate_left
   ·(intro W hSw;(try dsimp only at hSw);first|(go_simp;done)|(go_simp;with_reducible rfl))
   try simp only [Act.put,sA,sB,sC]
   refine wpAnyH_take (i:=9) (oi:=⟨some 38,.indexAddr 84 (.tmp 33) (.tmp 37),0, "read.go:58",#[⟨4,.data⟩,⟨8,.data⟩],none⟩) (v:=?_) rfl gK gK gK (fun _ _ _ h=>h) (Or.inl ⟨by rfl,?_⟩) (by assumption) ?_
   rotate_left
   ·(intro W hSw;(try dsimp only at hSw);first|(go_simp;done)|(go_simp;with_reducible rfl))
   try simp only [Act.put,sA,sB,sC]
   refine wpAnyH_take (i:=10) (oi:=⟨some 39,.load 112 (.tmp 38),112, "read.go:58",#[⟨9,.data⟩],none⟩) (v:=?_) rfl gK gK gK (fun _ _ _ h=>h) (Or.inl ⟨by rfl,?_⟩) (by assumption) ?_
   rotate_left
   ·(intro W hSw;(try dsimp only at hSw);first|(go_simp;done)|(go_simp;with_reducible rfl))
   try simp only [Act.put,sA,sB,sC]
   refine wpAnyH_take (i:=11) (oi:=⟨some 40,.nilCheck (.tmp 29),0, "read.go:58",#[⟨0,.data⟩,⟨0,.phase⟩,⟨1,.phase⟩,⟨2,.phase⟩,⟨3,.phase⟩,⟨4,.phase⟩,⟨5,.phase⟩,⟨6,.phase⟩,⟨7,.phase⟩,⟨8,.phase⟩,⟨9,.phase⟩,⟨10,.phase⟩],none⟩) (v:=?_) rfl gK gK gK (fun _ _ _ h=>h) (Or.inl ⟨by rfl,?_⟩) (by assumption) ?_
   rotate_left
   ·(intro W hSw;(try dsimp only at hSw);first|(go_simp;done)|(go_simp;with_reducible rfl))
   try simp only [Act.put,sA,sB,sC]
   refine wpAnyH_take (i:=12) (oi:=⟨some 41,.fieldAddr 116 (.tmp 40) 2,0, "read.go:58",#[⟨11,.data⟩,⟨0,.phase⟩,⟨1,.phase⟩,⟨2,.phase⟩,⟨3,.phase⟩,⟨4,.phase⟩,⟨5,.phase⟩,⟨6,.phase⟩,⟨7,.phase⟩,⟨8,.phase⟩,⟨9,.phase⟩,⟨10,.phase⟩],none⟩) (v:=?_) rfl gK gK gK (fun _ _ _ h=>h) (Or.inl ⟨by rfl,?_⟩) (by assumption) ?_
   rotate_left
   ·(intro W hSw;(try dsimp only at hSw);first|(go_simp;done)|(go_simp;with_reducible rfl))
   try simp only [Act.put,sA,sB,sC]
   refine wpAnyH_ready (rs:=[13]) gK (by simp) ?_
   refine AllReadyH.cons (o:=⟨none,.store 112 (.tmp 41) (.tmp 39),0, "read.go:58",#[⟨12,.data⟩,⟨10,.data⟩,⟨0,.phase⟩,⟨1,.phase⟩,⟨2,.phase⟩,⟨3,.phase⟩,⟨4,.phase⟩,⟨5,.phase⟩,⟨6,.phase⟩,⟨7,.phase⟩,⟨8,.phase⟩,⟨9,.phase⟩,⟨10,.phase⟩],none⟩) rfl (fun K hK=>?_) AllReadyH.nil
   go_simp
   refine hK.out _ _ ?_ (fun hHeld=>?_)
   ·((try dsimp only);(simp (maxDischargeDepth:=12) [go_sem,c0,c1,p0,p1,p2,p3,p4,p5,p6]))
   clear hK K
   try simp only [Act.put,sA,sB,sC]
   refine wpAnyH_done gK ?_ _
   go_wp2
   change bodyPost _ _ _ _ _ (World.drew (st7 w2 p ⟨xk,xt,xv,xa⟩))
   generalize st7 w2 p ⟨xk,xt,xv,xa⟩=w3 at h3 g3 ⊢
   have HX3:=HXF.out
   subst HX3
   go_end0
   exact ⟨rfl,h3,(g2.trans g3 fun _ h=>.inl h).trans (Fr.of_below ((Below.refl _ w3).drew) p none) fun _ h=>.inl h⟩
def z4p (x:List Nd):List Value:=x.flatMap fun t=>(ncs t).toList
abbrev z1n (w:World) (base:Nat) (v:Value) (x:List Nd):Prop:=w.ownsRow base 74 8 v x.length (z4p x)
structure Stt (w0:World) (ao:Option Addr) (ts:List Ti) (cap p:Nat) (w:World) (k:Nat) (nv:Value) (acc:List Nd) (o:Nat):Prop where
 low:Below w0.heap.size w0 w
 hp:w0.heap.size≤p
 rb:Rb w p ao ts.length cap (k:Int) (nxt ts k) nv (o:Int)
 own:z1n w w0.heap.size nv acc
 kl:k≤ts.length
 few:acc.length≤257
 deep:o≤64
theorem z1n.fr {w w':World} {B p:Nat} {v:Value} {x:List Nd} {cs:Array Value} (h:z1n w B v x) (hc:Cbox w p cs 118) (hf:Fr w w' p none):z1n w' B v x:=by
 obtain ⟨h1,h2⟩:=h
 refine ⟨h1,?_⟩
 rcases h2 with h2|⟨g,cap,cur,rfl,hb,hg,hr⟩
 ·exact .inl h2
 ·refine .inr ⟨g,cap,cur,rfl,hb,?_,hr⟩
  have hlt:g<w.heap.size:=by
   rcases Nat.lt_or_ge g w.heap.size with h|h
   ·exact h
   ·rw [Array.getElem?_eq_none h] at hg;cases hg
  rw [hf.block g hlt ?_ (by simp)]
  ·exact hg
  ·intro e
   subst e
   unfold Cbox at hc
   rw [hg] at hc
   have:(74:Nat)=118:=by injection hc with hc;injection hc
   cases this
theorem nxt_lt {ts:List Ti} {k:Nat} (h:(nxt ts k).t≠[]):k<ts.length:=by
 rcases Nat.lt_or_ge k ts.length with h'|h'
 ·exact h'
 ·unfold nxt at h
  rw [List.getElem?_eq_none h'] at h
  exact absurd rfl h
theorem rb_size {w:World} {p:Nat} {ao:Option Addr} {n cap:Nat} {k:Int} {y:Ti} {nv:Value} {o:Int} (h:Rb w p ao n cap k y nv o) (k':Int):Rb (w.setCell ⟨p,1,none⟩ (.int .i64 k')) p ao n cap k' y nv o:=by
 have:=h.set 1 (.int .i64 k')
 simp only [List.setIfInBounds_toArray,List.set_cons_zero,List.set_cons_succ] at this
 exact this
theorem pass_any (w0:World) (p:Nat) (ao:Option Addr) (ts:List Ti) (cap k:Nat) (o:Int) (y:Ti) (nv:Value) (w:World) (E:Env w0 ao ts) (hB:Below w0.heap.size w0 w) (hp:w0.heap.size≤p) (hk:k<ts.length) (h:Rb w p ao ts.length cap (k:Int) y nv o) :
  Calls Tryz.prog 206 #[.pointer (some ⟨p,0,none⟩)] w fun e w'=>e=.returned (.tuple #[])∧Rb w' p ao ts.length cap ((k+1:Nat):Int) (nxt ts (k+1)) nv o∧Fr w w' p none:=by
 have hl:=h.lt
 have c1:=h.at 1
 have f1:=h.free 1
 have hfew:=E.few
 have h1:=rb_size h ((k+1:Nat):Int)
 have g1:=Fr.set w p 1 (.int .i64 ((k+1:Nat):Int)) none
 have e1:((k+1:Nat):Int)=(k:Int)+1:=by omega
 rw [e1] at h1 g1
 have L:=look_any w0 p ao ts cap (k+1) o y nv (w.setCell ⟨p,1,none⟩ (.int .i64 ((k:Int)+1))) E (g1.below hB hB.size hp (fun k e=>by cases e)) hp (by rw [e1];exact h1)
 rw [e1] at L ⊢
 clear E h1
 have hkl:(k:Int)<4096:=by omega
 generalize nxt ts (k+1)=X at *
 generalize ts.length=n at *
 go_enter Tryz.func206,Tryz.ntmps206
 go_wp2_with (go_at_call 66;refine L.mono ?_;rintro e w2 ⟨rfl,h2,g2⟩)
 go_end0
 exact ⟨rfl,h2,g1.trans g2 fun _ h=>.inl h⟩
theorem took_any (w0:World) (p:Nat) (ao:Option Addr) (ts:List Ti) (cap k:Nat) (o:Nat) (nv:Value) (acc:List Nd) (s:List UInt8) (w:World) (E:Env w0 ao ts) (hs:s≠[]) (S:Stt w0 ao ts cap p w k nv acc o) :
  Calls Tryz.prog 179 #[.pointer (some ⟨p,0,none⟩),.string ⟨s.toArray⟩] w fun e w'=>e=.returned (.bool ((nxt ts k).t==s))∧Stt w0 ao ts cap p w' (if (nxt ts k).t==s then k+1 else k) nv acc o∧Fr w w' p none:=by
 have hl:=S.rb.lt
 obtain ⟨y,hy⟩:∃ y,y=nxt ts k:=⟨_,rfl⟩
 have c3:=S.rb.at 3
 rw [← hy] at c3 ⊢
 obtain ⟨yk,yt,yv,ya⟩:=y
 have c3':w.cell? ⟨p,3,none⟩=some (.string ⟨yt.toArray⟩):=c3
 clear c3
 simp only
 cases hb:(yt==s) with
 | false =>
  have hb2:¬ yt=s:=by intro h;subst h;simp at hb
  have HS:Hid (Stt w0 ao ts cap p w k nv acc o):=S
  clear S E hy
  go_enter Tryz.func179,Tryz.ntmps179
  go_wp2
  go_ret
  exact ⟨rfl,HS.out,Fr.refl _ _ _⟩
 | true =>
  have et:yt=s:=by simpa using hb
  subst et
  have hk:k<ts.length:=nxt_lt (by rw [← hy];exact hs)
  have P:=pass_any w0 p ao ts cap k (o:Int) _ nv w E S.low S.hp hk S.rb
  have HS:Hid (Stt w0 ao ts cap p w k nv acc o):=S
  clear S E hy hb
  go_enter Tryz.func179,Tryz.ntmps179
  go_wp2_with (go_at_call 206;refine P.mono ?_;rintro e w2 ⟨rfl,h2,g2⟩)
  go_ret
  have S:=HS.out
  exact ⟨rfl,⟨g2.below S.low S.low.size S.hp (fun k e=>by cases e),S.hp,h2,S.own.fr S.rb g2,hk,S.few,S.deep⟩,g2⟩
def nmT (x:Ti):Bool:=x.k==1&&!resL x.t
theorem z9e (w0:World) (p:Nat) (ao:Option Addr) (ts:List Ti) (cap k:Nat) (o:Nat) (nv:Value) (acc:List Nd) (w:World) (E:Env w0 ao ts) (S:Stt w0 ao ts cap p w k nv acc o) :
  Calls Tryz.prog 264 #[.pointer (some ⟨p,0,none⟩)] w fun e w'=>e=.returned (.tuple #[.string ⟨(if nmT (nxt ts k) then (nxt ts k).t else []).toArray⟩,.bool (nmT (nxt ts k))])∧Stt w0 ao ts cap p w' (if nmT (nxt ts k) then k+1 else k) nv acc o∧Fr w w' p none:=by
 have hl:=S.rb.lt
 have hkn:nmT (nxt ts k)=true→k<ts.length:=by
  intro h
  rcases Nat.lt_or_ge k ts.length with h'|h'
  ·exact h'
  ·unfold nxt at h
   rw [List.getElem?_eq_none h'] at h
   cases h
 have hlen:(nxt ts k).t.length≤4096:=by
  unfold nxt
  split
  ·split
   ·rename_i x _ hr
    unfold rtok at hr
    split at hr
    ·assumption
    ·cases hr
   ·simp
  ·simp
 obtain ⟨y,hy⟩:∃ y,y=nxt ts k:=⟨_,rfl⟩
 have c2:=S.rb.at 2
 have c3:=S.rb.at 3
 rw [← hy] at c2 c3 hkn hlen ⊢
 obtain ⟨yk,yt,yv,ya⟩:=y
 have c2':w.cell? ⟨p,2,none⟩=some (.int .i64 yk):=c2
 have c3':w.cell? ⟨p,3,none⟩=some (.string ⟨yt.toArray⟩):=c3
 clear c2 c3
 unfold nmT at hkn ⊢
 simp only at hkn hlen ⊢
 have RS:=fun W=>z6t ⟨yt.toArray⟩ W
 have e0:(ByteArray.mk yt.toArray).toList=yt:=by rw [ByteArray.toList_eq]
 rw [e0] at RS
 clear e0
 have HS:Hid (Stt w0 ao ts cap p w k nv acc o):=S
 by_cases h1:yk=1
 case neg =>
  have h1':(yk==1)=false:=by rw [beq_eq_false_iff_ne];exact h1
  rw [h1',Bool.false_and]
  clear S E hy
  go_enter Tryz.func264,Tryz.ntmps264
  go_wp2
  refine bodyPost_ret_by (v:=.tuple #[.string ⟨#[]⟩,.bool false]) ?_ rfl ⟨rfl,HS.out,Fr.refl _ _ _⟩
  simp [results,Tryz.results264,go_sem]
 subst h1
 rw [show ((1:Int)==1)=true from rfl,Bool.true_and] at hkn ⊢
 cases hr:resL yt with
 | true =>
  rw [hr] at RS
  clear S E hy hkn
  generalize ByteArray.mk yt.toArray=T at *
  go_enter Tryz.func264,Tryz.ntmps264
  go_wp2_with (go_at_call 50;refine (RS _).mono ?_;rintro e w' ⟨rfl,rfl⟩)
  refine bodyPost_ret_by (v:=.tuple #[.string ⟨#[]⟩,.bool false]) ?_ rfl ⟨rfl,HS.out,Fr.refl _ _ _⟩
  simp [results,Tryz.results264,go_sem]
 | false =>
  rw [hr] at RS hkn
  have hk:=hkn rfl
  have C:=fun W=>z4a ⟨yt.toArray⟩ W (by show yt.length≤_;omega)
  have P:∀ W,Below w.heap.size w W→Calls Tryz.prog 206 #[.pointer (some ⟨p,0,none⟩)] W fun e w'=>e=.returned (.tuple #[])∧Rb w' p ao ts.length cap ((k+1:Nat):Int) (nxt ts (k+1)) nv (o:Int)∧Fr W w' p none:=fun W h=>pass_any w0 p ao ts cap k (o:Int) _ nv W E (S.low.trans (h.mono S.low.size)) S.hp hk (Cbox.later S.rb h)
  clear S E hy hkn hr
  go_enter Tryz.func264,Tryz.ntmps264
  go_wp2_with (first
   | (go_at_call 50;refine (RS _).mono ?_;rintro e w' ⟨rfl,rfl⟩)
   | (go_at_call 35;refine (C _).mono ?_;rintro e w1 ⟨rfl,b1⟩)
   | (go_at_call 206;refine (P _ b1).mono ?_;rintro e w2 ⟨rfl,h2,g2⟩))
  have S:=HS.out
  have g:Fr w w2 p none:=(Fr.of_below b1 p none).trans g2 fun _ h=>.inl h
  refine bodyPost_ret_by (v:=.tuple #[.string ⟨yt.toArray⟩,.bool true]) ?_ rfl ⟨rfl,⟨g.below S.low S.low.size S.hp (fun k e=>by cases e),S.hp,h2,S.own.fr S.rb g,hk,S.few,S.deep⟩,g⟩
  simp [results,Tryz.results264,go_sem]
def opAt (t:List UInt8) (f n:Nat):Nat:=match n with
 | 0=>0
 | n+1=>if t==sgn f then f else opAt t (f+1) n
theorem sgn_pos:∀ j,6≤j→j<19→sgn j≠[]:=fun j h1 h2=>(by decide:∀ j,j<19→6≤j→sgn j≠[]) j h2 h1
theorem z5m (w0:World) (p:Nat) (ao:Option Addr) (ts:List Ti) (cap k:Nat) (o:Nat) (nv:Value) (acc:List Nd) (f n:Nat) (L:Int) (w:World) (E:Env w0 ao ts) (hf:6≤f) (hn:f+n≤19) (hL:L=(f:Int)+(n:Int) - 1) (S:Stt w0 ao ts cap p w k nv acc o) :
  Calls Tryz.prog 129 #[.pointer (some ⟨p,0,none⟩),.int .i64 (f:Int),.int .i64 L] w fun e w'=>e=.returned (.int .i64 (opAt (nxt ts k).t f n:Int))∧Stt w0 ao ts cap p w' (if opAt (nxt ts k).t f n=0 then k else k+1) nv acc o∧Fr w w' p none:=by
 obtain ⟨R,hR⟩:∃ R,R=opAt (nxt ts k).t f n:=⟨_,rfl⟩
 rw [← hR]
 have HR:Hid (R=opAt (nxt ts k).t f n):=hR
 clear hR
 obtain ⟨q,hq⟩:∃ q,q=if R=0 then k else k+1:=⟨_,rfl⟩
 rw [← hq]
 have HQ:Hid (q=if R=0 then k else k+1):=hq
 have HL:Hid (L=(f:Int)+(n:Int) - 1):=hL
 clear hq hL
 go_enter Tryz.func129,Tryz.ntmps129
 go_wp2
 go_loopw [7] (fun r wi=>∃ j:Nat,r=.int .i64 (j:Int)∧f≤j∧j≤f+n∧Hid (Stt w0 ao ts cap p wi k nv acc o)∧Fr w wi p none∧Hid (R=opAt (nxt ts k).t j (f+n - j))) (fun r _=>19 - (intOf r).toNat)
 case atStart=>exact ⟨f,rfl,Nat.le_refl _,by omega,S,Fr.refl _ _ _,by show R=_;rw [HR.out];congr 1;omega⟩
 case round =>
  obtain ⟨j,rfl,hj1,hj2,HS,g,hH⟩:=hrel
  by_cases hlt:j<f+n
  ·have hlt':(j:Int)≤L:=by rw [HL.out];omega
   have j0:(0:Int)≤(j:Int):=by omega
   have j1:(j:Int)<19:=by omega
   have hsg:=E.sg.later HS.out.low j (by omega)
   have T:=took_any w0 p ao ts cap k o nv acc (sgn j) wr E (sgn_pos j (by omega) (by omega)) HS.out
   have hne:f+n - j=(f+n - (j+1))+1:=by omega
   have hstep:R=if (nxt ts k).t==sgn j then j else opAt (nxt ts k).t (j+1) (f+n - (j+1)):=by
    rw [hH.out,hne];rfl
   have hgl:=World.block_lt_of_cell? wr _ hsg
   clear hH HS E S HR
   cases hb:((nxt ts k).t==sgn j) with
   | true =>
    rw [hb] at T hstep
    simp only [↓reduceIte] at T
    have HF:Hid (R=j):=by show R=j;rw [hstep,if_pos rfl]
    clear hstep hb
    go_wp2_with (go_at_call 179;refine T.mono ?_;rintro e w2 ⟨rfl,S2,g2⟩)
    go_ret
    have hR:=HF.out
    have hq:=HQ.out
    rw [if_neg (by omega)] at hq
    subst hq
    exact ⟨by rw [hR];rfl,S2,g.trans g2 fun _ h=>.inl h⟩
   | false =>
    rw [hb] at T hstep
    simp only [Bool.false_eq_true,↓reduceIte] at T
    have HF:Hid (R=opAt (nxt ts k).t (j+1) (f+n - (j+1))):=by show R=_;rw [hstep,if_neg (by simp)]
    clear hstep hb
    go_wp2_with (go_at_call 179;refine T.mono ?_;rintro e w2 ⟨rfl,S2,g2⟩)
    exact ⟨⟨j+1,by rw [cst1],by omega,by omega,S2,g.trans g2 fun _ h=>.inl h,HF⟩,by simp [intOf];omega⟩
  ·have hlt':¬ (j:Int)≤L:=by rw [HL.out];omega
   have HF:Hid (R=0):=by
    show R=0
    rw [hH.out,show f+n - j=0 by omega];rfl
   clear hH E S HR
   go_wp2
   go_ret
   have hR:=HF.out
   have hq:=HQ.out
   rw [if_pos hR] at hq
   subst hq
   exact ⟨by rw [hR];rfl,HS.out,g⟩
def putN (acc:List Nd) (x:Nd):List Nd:=if acc.length≤256 then acc++[x] else acc
theorem ncells_snoc (x:List Nd) (t:Nd):z4p (x++[t])=z4p x++(ncs t).toList:=by
 simp [z4p]
theorem one_nd (x:Nd):∀ u∈(ncs x).toList,u.oneCell'=true:=by
 intro u hu
 simp at hu
 rcases hu with rfl|rfl|rfl|rfl|rfl|rfl|rfl|rfl <;> rfl
theorem infoNd:(Tryz.prog.info? 74).map (fun i=>(i.zero,i.size,i.bytes))=some (some (.agg #[.int .i64 0,.string ⟨#[]⟩,.string ⟨#[]⟩,.int .i64 0,.int .i64 0,.int .i64 0,.string ⟨#[]⟩,.int .i64 0]),8,88):=by kernel_rfl
theorem z1n.push {w:World} {base n:Nat} {v:Value} {acc:List Nd} {x:Nd} (h:w.ownsRow base 74 8 v n (z4p acc++(ncs x).toList)) (hn:n=acc.length+1):z1n w base v (acc++[x]):=by
 unfold z1n
 rw [ncells_snoc,List.length_append]
 subst hn
 exact h
theorem rb_nodes {w:World} {p:Nat} {ao:Option Addr} {n cap:Nat} {k:Int} {y:Ti} {nv:Value} {o:Int} (h:Rb w p ao n cap k y nv o) (nv':Value):Rb (w.setCell ⟨p,9,none⟩ nv') p ao n cap k y nv' o:=by
 have:=h.set 9 nv'
 simp only [List.setIfInBounds_toArray,List.set_cons_zero,List.set_cons_succ] at this
 exact this
theorem rb_open {w:World} {p:Nat} {ao:Option Addr} {n cap:Nat} {k:Int} {y:Ti} {nv:Value} {o:Int} (h:Rb w p ao n cap k y nv o) (o':Int):Rb (w.setCell ⟨p,10,none⟩ (.int .i64 o')) p ao n cap k y nv o':=by
 have:=h.set 10 (.int .i64 o')
 simp only [List.setIfInBounds_toArray,List.set_cons_zero,List.set_cons_succ] at this
 exact this
def Goes (p:Nat) (w w':World) (nv nv':Value):Prop:=Fr w w' p nv.ownBlock∧∀ g,nv'.ownBlock=some g→nv.ownBlock=some g∨w.heap.size≤g
theorem Goes.refl (p:Nat) (w:World) (nv:Value):Goes p w w nv nv:=⟨Fr.refl _ _ _,fun _ h=>.inl h⟩
theorem Goes.of_fr {p:Nat} {w w':World} (h:Fr w w' p none) (nv:Value):Goes p w w' nv nv:=⟨⟨h.os,h.tape,h.output,h.size,fun k hk hp _=>h.block k hk hp (by simp)⟩,fun _ h=>.inl h⟩
theorem Goes.trans {p:Nat} {w w1 w2:World} {nv n1 n2:Value} (h:Goes p w w1 nv n1) (k:Goes p w1 w2 n1 n2):Goes p w w2 nv n2:=by
 refine ⟨h.1.trans k.1 h.2,fun g hg=>?_⟩
 rcases k.2 g hg with e|e
 ·exact h.2 g e
 ·exact .inr (Nat.le_trans h.1.size e)
theorem z1n.shape {w:World} {base:Nat} {v:Value} {x:List Nd} (h:z1n w base v x):∃ ao cap,v=.slice ao x.length cap:=by
 obtain ⟨h1,h2⟩:=h
 rcases h2 with ⟨rfl,hn⟩|⟨g,cap,cur,rfl,_⟩
 ·exact ⟨none,0,by rw [hn]⟩
 ·exact ⟨_,cap,rfl⟩
theorem put_grown {w w3:World} {B p n cap m:Nat} {ao na:Option Addr} {nc:Nat} {k o:Int} {y:Ti} {acc:List Nd} {x:Nd}
  (hr:Rb w p ao n cap k y (.slice na acc.length nc) o) (ho:z1n w B (.slice na acc.length nc) acc) (hm:acc.length=m)
  (hg:((w.alloc (.cells (ncs x) 74)).alloc (.cells (ncs x) 74)).drew.grownBy w3 (Value.slice na m nc).ownBlock) :
  Fr w w3 p (Value.slice na m nc).ownBlock∧Cbox w3 p (rcs ao n cap k y (.slice na m nc) o) 118∧Cbox w3 w.heap.size (ncs x) 74:=by
 subst hm
 have hrow:∀ g,(Value.slice na acc.length nc).ownBlock=some g→g<w.heap.size∧g≠p:=by
  intro g h
  refine ⟨(World.ownsRow.lt ho g h).2,fun e=>?_⟩
  subst e
  obtain ⟨_,h2⟩:=ho
  rcases h2 with ⟨h2,_⟩|⟨g',cap',cur,e1,_,hg',_⟩
  ·rw [h2] at h;cases h
  ·rw [e1] at h
   have:g'=g:=by injection h
   subst this
   have hr':w.heap[g']?=some (.cells (rcs ao n cap k y (.slice na acc.length nc) o) 118 (0,0)):=hr
   rw [hg'] at hr'
   have:(74:Nat)=118:=by injection hr' with hr';injection hr'
   cases this
 have hblk:∀ j,j<w.heap.size→(Value.slice na acc.length nc).ownBlock≠some j→w3.heap[j]?=w.heap[j]?:=by
  intro j hj hne
  rw [hg.block j (by simp;omega) (fun e=>hne e.symm)]
  have:=((Below.refl w.heap.size w).alloc (Nat.le_refl _) (.cells (ncs x) 74)).alloc (by simp) (.cells (ncs x) 74)
  exact this.block j hj
 refine ⟨⟨hg.os,hg.tape,hg.output,by have:=hg.size;simp at this;omega,fun j hj _ hne=>hblk j hj hne⟩,?_,?_⟩
 ·have hlp:p<w.heap.size:=Cbox.lt hr
  show w3.heap[p]?=_
  rw [hblk p hlp (fun e=>(hrow p e).2 rfl)]
  exact hr
 ·show w3.heap[w.heap.size]?=_
  rw [hg.block w.heap.size (by simp;omega) (fun e=>by have:=(hrow _ e.symm).1;omega)]
  have h:=(Cbox.new w (ncs x) 74).later ((Below.refl _ _).alloc (Nat.le_refl _) (.cells (ncs x) 74))
  exact h
theorem put_end {w0 w w3:World} {ao:Option Addr} {ts:List Ti} {cap p k o m:Nat} {na:Option Addr} {nc gg gc:Nat} {acc A:List Nd} {x:Nd}
  (S:Stt w0 ao ts cap p w k (.slice na acc.length nc) acc o) (hm:acc.length=m) (hA:A=acc++[x]) (hle:m≤256)
  (g3:Fr w w3 p (Value.slice na m nc).ownBlock) (hc:Cbox w3 p (rcs ao ts.length cap (k:Int) (nxt ts k) (.slice na m nc) (o:Int)) 118)
  (ho:w3.ownsRow w0.heap.size 74 8 (.slice (some ⟨gg,0,none⟩) (m+1) gc) (m+1) (z4p acc++(ncs x).toList)) (hat:(Value.slice na m nc).ownBlock=some gg∨gg=w.heap.size+2) :
  Stt w0 ao ts cap p (w3.setCell ⟨p,9,none⟩ (.slice (some ⟨gg,0,none⟩) (m+1) gc)) k (.slice (some ⟨gg,0,none⟩) (m+1) gc) A o∧Goes p w (w3.setCell ⟨p,9,none⟩ (.slice (some ⟨gg,0,none⟩) (m+1) gc)) (.slice na m nc) (.slice (some ⟨gg,0,none⟩) (m+1) gc):=by
 subst hm;subst hA
 have hn:=z1n.push ho rfl
 have g4:=Fr.set w3 p 9 (.slice (some ⟨gg,0,none⟩) (acc.length+1) gc) none
 have g:Fr w (w3.setCell ⟨p,9,none⟩ (.slice (some ⟨gg,0,none⟩) (acc.length+1) gc)) p (Value.slice na acc.length nc).ownBlock:=g3.trans g4 (fun k e=>by cases e)
 have hrow:∀ q,(Value.slice na acc.length nc).ownBlock=some q→w0.heap.size≤q:=fun q h=>(World.ownsRow.lt S.own q h).1
 refine ⟨⟨g.below S.low S.low.size S.hp hrow,S.hp,rb_nodes hc _,hn.fr hc g4,S.kl,by simp;omega,S.deep⟩,g,fun q h=>?_⟩
 have:gg=q:=by injection h
 subst this
 rcases hat with h|h
 ·exact .inl h
 ·exact .inr (by omega)
theorem z3s (w0:World) (p:Nat) (ao:Option Addr) (ts:List Ti) (cap k:Nat) (o:Nat) (nv:Value) (acc:List Nd) (x:Nd) (w:World) (S:Stt w0 ao ts cap p w k nv acc o) :
  Calls Tryz.prog 128 #[.pointer (some ⟨p,0,none⟩),ndv x] w fun e w'=>e=.returned (.tuple #[])∧∃ nv',Stt w0 ao ts cap p w' k nv' (putN acc x) o∧Goes p w w' nv nv':=by
 obtain ⟨i0,hi,hz0,hz1,hz2⟩:=info_parts infoNd
 have hl:=S.rb.lt
 have c9:=S.rb.at 9
 have f9:=S.rb.free 9
 obtain ⟨na,nc,rfl⟩:=S.own.shape
 have HS:Hid (Stt w0 ao ts cap p w k (.slice na acc.length nc) acc o):=S
 obtain ⟨A,hA⟩:∃ A,A=putN acc x:=⟨_,rfl⟩
 rw [← hA]
 unfold putN at hA
 have HA:Hid (A=if acc.length≤256 then acc++[x] else acc):=hA
 have hfew:=S.few
 clear hA S
 obtain ⟨m,hm⟩:∃ m,acc.length=m:=⟨_,rfl⟩
 have HM:Hid (acc.length=m):=hm
 rw [hm] at hfew
 obtain ⟨xo,xt,xn,xv,xa⟩:=x
 by_cases hle:m≤256
 case neg =>
  have hle':¬ (m:Int)≤256:=by omega
  rw [hm] at c9 ⊢
  clear hm
  go_enter Tryz.func128,Tryz.ntmps128
  go_wp2
  go_end0
  have S:=HS.out
  have g:Fr w (w.alloc (.cells (ncs ⟨xo,xt,xn,xv,xa⟩) 74)) p none:=Fr.of_below ((Below.refl _ w).alloc (Nat.le_refl _) _) p none
  refine ⟨rfl,_,⟨g.below S.low S.low.size S.hp (fun k e=>by cases e),S.hp,?_,?_,S.kl,?_,S.deep⟩,Goes.of_fr g _⟩
  ·rw [← HM.out];exact Cbox.later S.rb ((Below.refl _ w).alloc (Nat.le_refl _) _)
  ·rw [HA.out,if_neg (by rw [HM.out];exact hle),← HM.out]
   exact S.own.fr S.rb g
  ·rw [HA.out,if_neg (by rw [HM.out];exact hle)];exact S.few
 ·have hle':(m:Int)≤256:=by omega
  have HO:Hid (z1n w w0.heap.size (.slice na acc.length nc) acc):=HS.out.own
  rw [hm] at c9 ⊢
  have ho':w.ownsRow w0.heap.size 74 8 (.slice na m nc) m (z4p acc):=by have:=HO.out;unfold z1n at this;rw [hm] at this;exact this
  have hB0:=HS.out.low.size
  have hpne:¬ w.heap.size=p:=by omega
  have HNEW:Hid (∀ j u,(ncs ⟨xo,xt,xn,xv,xa⟩).toList[j]?=some u→((w.alloc (.cells (ncs ⟨xo,xt,xn,xv,xa⟩) 74)).drew.alloc (.cells (ncs ⟨xo,xt,xn,xv,xa⟩) 74)).cell? ((⟨w.heap.size+1,0,none⟩:Addr).add j)=some u):=by
   have h:=Cbox.new (w.alloc (.cells (ncs ⟨xo,xt,xn,xv,xa⟩) 74)).drew (ncs ⟨xo,xt,xn,xv,xa⟩) 74
   have e:((w.alloc (.cells (ncs ⟨xo,xt,xn,xv,xa⟩) 74)).drew).heap.size=w.heap.size+1:=by simp
   rw [e] at h
   exact World.news_of_block h
  clear hm
  go_enter Tryz.func128,Tryz.ntmps128
  go_wp2_with fail
  refine wp_region_held_drew (S:=(fun W=>W.cell? ⟨w.heap.size,0,none⟩=some (.int .i64 xo)∧W.cell? ⟨w.heap.size,1,none⟩=some (.string ⟨xt.toArray⟩)∧W.cell? ⟨w.heap.size,2,none⟩=some (.string ⟨xn.toArray⟩)∧W.cell? ⟨w.heap.size,3,none⟩=some (.int .i64 xv.k)∧W.cell? ⟨w.heap.size,4,none⟩=some (.int .i64 xv.n)∧W.cell? ⟨w.heap.size,5,none⟩=some (.int .i64 xv.m)∧W.cell? ⟨w.heap.size,6,none⟩=some (.string ⟨xv.b.toArray⟩)∧W.cell? ⟨w.heap.size,7,none⟩=some (.int .i64 xa))) gK ?_ (fun hHeld=>?_)
  ·((try dsimp only);(simp (maxDischargeDepth:=12) [go_sem]))
  refine wpAnyH_take (i:=0) (oi:=⟨some 10,.move (.tmp 0),143, "read.go:109",#[],none⟩) (v:=?_) rfl gK gK gK (fun _ _ _ h=>h) (Or.inl ⟨by rfl,?_⟩) (by assumption) ?_
  rotate_left
  ·(intro W hSw;(try dsimp only at hSw);first|(go_simp;done)|(go_simp;with_reducible rfl))
  try simp only [Act.put,sA,sB,sC]
  refine wpAnyH_take (i:=1) (oi:=⟨some 11,.move (.tmp 0),143, "read.go:109",#[],none⟩) (v:=?_) rfl gK gK gK (fun _ _ _ h=>h) (Or.inl ⟨by rfl,?_⟩) (by assumption) ?_
  rotate_left
  ·(intro W hSw;(try dsimp only at hSw);first|(go_simp;done)|(go_simp;with_reducible rfl))
  try simp only [Act.put,sA,sB,sC]
  refine wpAnyH_take (i:=2) (oi:=⟨some 12,.nilCheck (.tmp 11),0, "read.go:109",#[⟨1,.data⟩],none⟩) (v:=?_) rfl gK gK gK (fun _ _ _ h=>h) (Or.inl ⟨by rfl,?_⟩) (by assumption) ?_
  rotate_left
  ·(intro W hSw;(try dsimp only at hSw);first|(go_simp;done)|(go_simp;with_reducible rfl))
  try simp only [Act.put,sA,sB,sC]
  refine wpAnyH_take (i:=3) (oi:=⟨some 13,.fieldAddr 118 (.tmp 12) 1,0, "read.go:109",#[⟨2,.data⟩],none⟩) (v:=?_) rfl gK gK gK (fun _ _ _ h=>h) (Or.inl ⟨by rfl,?_⟩) (by assumption) ?_
  rotate_left
  ·(intro W hSw;(try dsimp only at hSw);first|(go_simp;done)|(go_simp;with_reducible rfl))
  try simp only [Act.put,sA,sB,sC]
  refine wpAnyH_take (i:=5) (oi:=⟨some 15,.load 74 (.tmp 3),74, "read.go:109",#[],none⟩) (v:=?_) rfl gK gK gK (fun _ _ _ h=>h) (Or.inl ⟨by rfl,?_⟩) (by assumption) ?_
  rotate_left
  ·(intro W hSw;(try dsimp only at hSw);first|(go_simp;done)|(go_simp;with_reducible rfl))
  try simp only [Act.put,sA,sB,sC]
  refine wpAnyH_ready (rs:=[4,6]) gK (by simp) ?_
  refine AllReadyH.cons (o:=⟨some 14,.load 31 (.tmp 13),31, "read.go:109",#[⟨3,.data⟩],none⟩) rfl (fun K hK=>?_) ?_
  ·(
   go_simp
   refine hK.out _ _ ?_ (fun hHeld=>?_)
   ·((try dsimp only);(simp (maxDischargeDepth:=12) [go_sem]))
   clear hK K
   try simp only [Act.put,sA,sB,sC]
   refine wpAnyH_ready (rs:=[6]) gK (by simp) ?_
   refine AllReadyH.cons (o:=⟨some 16,.buildSlice 31 1 #[(0,.tmp 15)],31, "read.go:109",#[⟨5,.data⟩],none⟩) rfl (fun K hK=>?_) AllReadyH.nil
   go_simp
   refine hK.out _ _ ?_ (fun hHeld=>?_)
   ·((try dsimp only);(simp (maxDischargeDepth:=12) [go_sem]))
   clear hK K
   try simp only [Act.put,sA,sB,sC]
   refine wpAnyH_ready (rs:=[7]) gK (by simp) ?_
   refine AllReadyH.cons (o:=⟨some 17,.call { callee:=Callee.builtin Builtin.append,args:=#[.tmp 14,.tmp 16],argTypes:=#[31,31] },31, "read.go:109",#[⟨4,.data⟩,⟨6,.data⟩],none⟩) rfl (fun K hK=>?_) AllReadyH.nil
   (refine step_append_lies _ (by rfl) _ _ _ (by rfl) w0.heap.size 74 i0 _ 8 88 Tryz.underlying31 hi hz0 hz1 hz2 rfl (by omega) _ m (z4p acc) (by rfl) (World.ownsRow.alloc ((World.ownsRow.alloc ho' _).drew) _) ⟨w.heap.size+1,0,none⟩ 1 1 (ncs ⟨xo,xt,xn,xv,xa⟩).toList (by rfl) (by rfl) HNEW.out (one_nd ⟨xo,xt,xn,xv,xa⟩) (by omega) (by unfold maxLen;omega) (by omega) (by simp;omega) (w.heap.size+2) (by simp) ?_;intro gg gc w3 hown3 hgrow hat hlt3)
   obtain ⟨g3,hc3,hbx⟩:=put_grown HS.out.rb HO.out HM.out hgrow
   have c9c:=hc3.at 9
   have f9c:=hc3.free 9
   have hl3:=hc3.lt
   refine hK.out _ _ ?_ (fun hHeld=>?_)
   ·exact ⟨hbx.at 0,hbx.at 1,hbx.at 2,hbx.at 3,hbx.at 4,hbx.at 5,hbx.at 6,hbx.at 7⟩
   clear hK K
   try simp only [Act.put,sA,sB,sC]
   refine wpAnyH_take (i:=8) (oi:=⟨some 18,.nilCheck (.tmp 10),0, "read.go:109",#[⟨0,.data⟩,⟨0,.phase⟩,⟨1,.phase⟩,⟨2,.phase⟩,⟨3,.phase⟩,⟨4,.phase⟩,⟨5,.phase⟩,⟨6,.phase⟩,⟨7,.phase⟩],none⟩) (v:=?_) rfl gK gK gK (fun _ _ _ h=>h) (Or.inl ⟨by rfl,?_⟩) (by assumption) ?_
   rotate_left
   ·(intro W hSw;(try dsimp only at hSw);first|(go_simp;done)|(go_simp;with_reducible rfl))
   try simp only [Act.put,sA,sB,sC]
   refine wpAnyH_take (i:=9) (oi:=⟨some 19,.fieldAddr 118 (.tmp 18) 1,0, "read.go:109",#[⟨8,.data⟩,⟨0,.phase⟩,⟨1,.phase⟩,⟨2,.phase⟩,⟨3,.phase⟩,⟨4,.phase⟩,⟨5,.phase⟩,⟨6,.phase⟩,⟨7,.phase⟩],none⟩) (v:=?_) rfl gK gK gK (fun _ _ _ h=>h) (Or.inl ⟨by rfl,?_⟩) (by assumption) ?_
   rotate_left
   ·(intro W hSw;(try dsimp only at hSw);first|(go_simp;done)|(go_simp;with_reducible rfl))
   try simp only [Act.put,sA,sB,sC]
   refine wpAnyH_ready (rs:=[10]) gK (by simp) ?_
   refine AllReadyH.cons (o:=⟨none,.store 31 (.tmp 19) (.tmp 17),0, "read.go:109",#[⟨9,.data⟩,⟨7,.data⟩,⟨7,.chain⟩,⟨0,.phase⟩,⟨1,.phase⟩,⟨2,.phase⟩,⟨3,.phase⟩,⟨4,.phase⟩,⟨5,.phase⟩,⟨6,.phase⟩,⟨7,.phase⟩],none⟩) rfl (fun K hK=>?_) AllReadyH.nil
   go_simp
   refine hK.out _ _ ?_ (fun hHeld=>?_)
   ·(have y0:=hbx.at 0;have y1:=hbx.at 1;have y2:=hbx.at 2;have y3:=hbx.at 3;have y4:=hbx.at 4;have y5:=hbx.at 5;have y6:=hbx.at 6;have y7:=hbx.at 7;(try dsimp only);simp (maxDischargeDepth:=12) [go_sem,y0,y1,y2,y3,y4,y5,y6,y7])
   clear hK K
   try simp only [Act.put,sA,sB,sC]
   refine wpAnyH_done gK ?_ _
   go_wp2
   go_end0
   exact ⟨rfl,_,put_end HS.out HM.out (by rw [HA.out,if_pos (by rw [HM.out];exact hle)]) hle g3 hc3 hown3 hat⟩)
  refine AllReadyH.cons (o:=⟨some 16,.buildSlice 31 1 #[(0,.tmp 15)],31, "read.go:109",#[⟨5,.data⟩],none⟩) rfl (fun K hK=>?_) AllReadyH.nil
  go_simp
  refine hK.out _ _ ?_ (fun hHeld=>?_)
  ·((try dsimp only);(simp (maxDischargeDepth:=12) [go_sem]))
  clear hK K
  try simp only [Act.put,sA,sB,sC]
  refine wpAnyH_ready (rs:=[4]) gK (by simp) ?_
  refine AllReadyH.cons (o:=⟨some 14,.load 31 (.tmp 13),31, "read.go:109",#[⟨3,.data⟩],none⟩) rfl (fun K hK=>?_) AllReadyH.nil
  go_simp
  refine hK.out _ _ ?_ (fun hHeld=>?_)
  ·((try dsimp only);(simp (maxDischargeDepth:=12) [go_sem]))
  clear hK K
  try simp only [Act.put,sA,sB,sC]
  refine wpAnyH_ready (rs:=[7]) gK (by simp) ?_
  refine AllReadyH.cons (o:=⟨some 17,.call { callee:=Callee.builtin Builtin.append,args:=#[.tmp 14,.tmp 16],argTypes:=#[31,31] },31, "read.go:109",#[⟨4,.data⟩,⟨6,.data⟩],none⟩) rfl (fun K hK=>?_) AllReadyH.nil
  (refine step_append_lies _ (by rfl) _ _ _ (by rfl) w0.heap.size 74 i0 _ 8 88 Tryz.underlying31 hi hz0 hz1 hz2 rfl (by omega) _ m (z4p acc) (by rfl) (World.ownsRow.alloc ((World.ownsRow.alloc ho' _).drew) _) ⟨w.heap.size+1,0,none⟩ 1 1 (ncs ⟨xo,xt,xn,xv,xa⟩).toList (by rfl) (by rfl) HNEW.out (one_nd ⟨xo,xt,xn,xv,xa⟩) (by omega) (by unfold maxLen;omega) (by omega) (by simp;omega) (w.heap.size+2) (by simp) ?_;intro gg gc w3 hown3 hgrow hat hlt3)
  obtain ⟨g3,hc3,hbx⟩:=put_grown HS.out.rb HO.out HM.out hgrow
  have c9c:=hc3.at 9
  have f9c:=hc3.free 9
  have hl3:=hc3.lt
  refine hK.out _ _ ?_ (fun hHeld=>?_)
  ·exact ⟨hbx.at 0,hbx.at 1,hbx.at 2,hbx.at 3,hbx.at 4,hbx.at 5,hbx.at 6,hbx.at 7⟩
  clear hK K
  try simp only [Act.put,sA,sB,sC]
  refine wpAnyH_take (i:=8) (oi:=⟨some 18,.nilCheck (.tmp 10),0, "read.go:109",#[⟨0,.data⟩,⟨0,.phase⟩,⟨1,.phase⟩,⟨2,.phase⟩,⟨3,.phase⟩,⟨4,.phase⟩,⟨5,.phase⟩,⟨6,.phase⟩,⟨7,.phase⟩],none⟩) (v:=?_) rfl gK gK gK (fun _ _ _ h=>h) (Or.inl ⟨by rfl,?_⟩) (by assumption) ?_
  rotate_left
  ·(intro W hSw;(try dsimp only at hSw);first|(go_simp;done)|(go_simp;with_reducible rfl))
  try simp only [Act.put,sA,sB,sC]
  refine wpAnyH_take (i:=9) (oi:=⟨some 19,.fieldAddr 118 (.tmp 18) 1,0, "read.go:109",#[⟨8,.data⟩,⟨0,.phase⟩,⟨1,.phase⟩,⟨2,.phase⟩,⟨3,.phase⟩,⟨4,.phase⟩,⟨5,.phase⟩,⟨6,.phase⟩,⟨7,.phase⟩],none⟩) (v:=?_) rfl gK gK gK (fun _ _ _ h=>h) (Or.inl ⟨by rfl,?_⟩) (by assumption) ?_
  rotate_left
  ·(intro W hSw;(try dsimp only at hSw);first|(go_simp;done)|(go_simp;with_reducible rfl))
  try simp only [Act.put,sA,sB,sC]
  refine wpAnyH_ready (rs:=[10]) gK (by simp) ?_
  refine AllReadyH.cons (o:=⟨none,.store 31 (.tmp 19) (.tmp 17),0, "read.go:109",#[⟨9,.data⟩,⟨7,.data⟩,⟨7,.chain⟩,⟨0,.phase⟩,⟨1,.phase⟩,⟨2,.phase⟩,⟨3,.phase⟩,⟨4,.phase⟩,⟨5,.phase⟩,⟨6,.phase⟩,⟨7,.phase⟩],none⟩) rfl (fun K hK=>?_) AllReadyH.nil
  go_simp
  refine hK.out _ _ ?_ (fun hHeld=>?_)
  ·(have y0:=hbx.at 0;have y1:=hbx.at 1;have y2:=hbx.at 2;have y3:=hbx.at 3;have y4:=hbx.at 4;have y5:=hbx.at 5;have y6:=hbx.at 6;have y7:=hbx.at 7;(try dsimp only);simp (maxDischargeDepth:=12) [go_sem,y0,y1,y2,y3,y4,y5,y6,y7])
  clear hK K
  try simp only [Act.put,sA,sB,sC]
  refine wpAnyH_done gK ?_ _
  go_wp2
  go_end0
  exact ⟨rfl,_,put_end HS.out HM.out (by rw [HA.out,if_pos (by rw [HM.out];exact hle)]) hle g3 hc3 hown3 hat⟩
end Go.Proofs.YtljkonkfeiojnaaGreatDoor

namespace Go.Proofs.YtljkonkfeiojnaaGreatDoor
abbrev Rz:=Nat × Nat × List Nd
def opX (op:Nat):Nd:=⟨op,[],[],vz0,0⟩
def z0y (N:Nat→Ti) (f c:Nat) (part:Nat→List Nd→Rz):Nat→Nat→Nat→List Nd→Rz
  | 0,_,k,acc=>(99,k,acc)
  | m+1,op,k,acc =>
    if (part k acc).1=0 then
      (if opAt (N (part k acc).2.1).t f c=0 then (0,(part k acc).2.1,if op=0 then (part k acc).2.2 else putN (part k acc).2.2 (opX op))
       else z0y N f c part m (opAt (N (part k acc).2.1).t f c) ((part k acc).2.1+1) (if op=0 then (part k acc).2.2 else putN (part k acc).2.2 (opX op)))
    else part k acc
inductive NT|ex|an|no|co|su|te|un|en
def NT.rank:NT→Nat
 | .un=>1|.te=>2|.su=>3|.co=>4|.no=>5|.an=>6|.ex=>7|.en=>8
abbrev wNot:List UInt8:=[110,111,116]
abbrev wIs:List UInt8:=[105,115]
abbrev wNull:List UInt8:=[110,117,108,108]
def nullF (N:Nat→Ti) (k:Nat) (acc:List Nd):Rz :=
 if (N k).t==wNot then (if (N (k+1)).t==wNull then (0,k+2,putN (putN acc (opX 5)) (opX 4)) else (30,k+1,acc))
 else (if (N k).t==wNull then (0,k+1,putN acc (opX 5)) else (30,k,acc))
def argsL (N:Nat→Ti) (part:Nat→List Nd→Rz):Nat→Nat→List Nd→Nat→Rz × Nat
  | 0,k,acc,c=>((30,k,acc),c)
  | m+1,k,acc,c =>
    if (part k acc).1=0 then
      (if (N (part k acc).2.1).t==[44] then argsL N part m ((part k acc).2.1+1) (part k acc).2.2 (c+1)
       else if (N (part k acc).2.1).t==[41] then ((0,(part k acc).2.1+1,(part k acc).2.2),c+1)
       else ((30,(part k acc).2.1,(part k acc).2.2),c+1))
    else (part k acc,c)
def z2c (N:Nat→Ti) (part:Nat→List Nd→Rz) (k:Nat) (acc:List Nd):Rz × Nat :=
 if (N k).t==[41] then ((0,k+1,acc),0) else argsL N part 4 k acc 0
def colF (N:Nat→Ti) (part:Nat→List Nd→Rz) (k:Nat) (acc:List Nd) (o:Nat):Rz :=
  if nmT (N k) then
    (if (N (k+1)).t==[40] then
      (if o=64 then (38,k+2,putN acc ⟨19,[],(N k).t,vz0,0⟩)
       else ((z2c N part (k+2) acc).1.1,(z2c N part (k+2) acc).1.2.1,putN (z2c N part (k+2) acc).1.2.2 ⟨19,[],(N k).t,vz0,((z2c N part (k+2) acc).2:Int)⟩))
     else if (N (k+1)).t==[46] then
      (if nmT (N (k+2)) then (0,k+3,putN acc ⟨2,(N k).t,(N (k+2)).t,vz0,0⟩) else (30,k+2,acc))
     else (0,k+1,putN acc ⟨2,[],(N k).t,vz0,0⟩))
  else (30,k,acc)
def rdx (N:Nat→Ti) (V:List UInt8→Option Va) (M:Nat):Nat→NT→Nat→List Nd→Nat→Rz
  | 0,_,k,acc,_=>(99,k,acc)
  | n+1,.ex,k,acc,o=>z0y N 18 1 (fun k acc=>rdx N V M n .an k acc o) M 0 k acc
  | n+1,.an,k,acc,o=>z0y N 17 1 (fun k acc=>rdx N V M n .no k acc o) M 0 k acc
  | n+1,.no,k,acc,o =>
    if (N k).t==wNot then
      (if o=64 then (38,k+1,putN acc (opX 4)) else ((rdx N V M n .no (k+1) acc (o+1)).1,(rdx N V M n .no (k+1) acc (o+1)).2.1,putN (rdx N V M n .no (k+1) acc (o+1)).2.2 (opX 4)))
    else rdx N V M n .co k acc o
  | n+1,.co,k,acc,o =>
    if (rdx N V M n .su k acc o).1=0 then
      (if (N (rdx N V M n .su k acc o).2.1).t==wIs then nullF N ((rdx N V M n .su k acc o).2.1+1) (rdx N V M n .su k acc o).2.2
       else if opAt (N (rdx N V M n .su k acc o).2.1).t 11 6=0 then rdx N V M n .su k acc o
       else ((rdx N V M n .su ((rdx N V M n .su k acc o).2.1+1) (rdx N V M n .su k acc o).2.2 o).1,(rdx N V M n .su ((rdx N V M n .su k acc o).2.1+1) (rdx N V M n .su k acc o).2.2 o).2.1,
         putN (rdx N V M n .su ((rdx N V M n .su k acc o).2.1+1) (rdx N V M n .su k acc o).2.2 o).2.2 (opX (opAt (N (rdx N V M n .su k acc o).2.1).t 11 6))))
    else rdx N V M n .su k acc o
  | n+1,.su,k,acc,o=>z0y N 9 2 (fun k acc=>rdx N V M n .te k acc o) M 0 k acc
  | n+1,.te,k,acc,o=>z0y N 6 3 (fun k acc=>rdx N V M n .un k acc o) M 0 k acc
  | n+1,.un,k,acc,o =>
    if (N k).t==[45] then
      (if o=64 then (38,k+1,putN acc (opX 3)) else ((rdx N V M n .un (k+1) acc (o+1)).1,(rdx N V M n .un (k+1) acc (o+1)).2.1,putN (rdx N V M n .un (k+1) acc (o+1)).2.2 (opX 3)))
    else if (N k).t==[40] then
      (if o=64 then (38,k+1,acc) else rdx N V M n .en (k+1) acc (o+1))
    else match V (N k).t with
      | some v=>(0,k+1,putN acc ⟨1,[],[],v,0⟩)
      | none=>colF N (fun k acc=>rdx N V M n .ex k acc (o+1)) k acc o
  | n+1,.en,k,acc,o =>
    if (rdx N V M n .ex k acc o).1=0 then
      (if (N (rdx N V M n .ex k acc o).2.1).t==[41] then (0,(rdx N V M n .ex k acc o).2.1+1,(rdx N V M n .ex k acc o).2.2) else (30,(rdx N V M n .ex k acc o).2.1,(rdx N V M n .ex k acc o).2.2))
    else rdx N V M n .ex k acc o
def fnOf:NT→Nat
 | .ex=>67|.an=>90|.no=>130|.co=>180|.su=>207|.te=>229|.un=>240|.en=>254
def Does (w0:World) (ao:Option Addr) (ts:List Ti) (cap p:Nat) (fn:Nat) (o k:Nat) (_acc:List Nd) (nv:Value) (w:World) (r:Rz):Prop :=
 Calls Tryz.prog fn #[.pointer (some ⟨p,0,none⟩)] w fun e w'=>e=.returned (.int .i64 (r.1:Int))∧(∃ nv',Stt w0 ao ts cap p w' r.2.1 nv' r.2.2 o∧Goes p w w' nv nv')∧k≤r.2.1
end Go.Proofs.YtljkonkfeiojnaaGreatDoor
