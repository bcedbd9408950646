/-
  The reader of expressions: its cells, what changes in memory, and the smallest of its methods.
  The reader of expressions: its state, and the methods pass and took.
  The reader of expressions: put.
  How tokens are read into nodes, as a function: with no program in it but what a node, a token and a sign are.
  The reader of expressions: steps, parts that are parted by the signs of ops.
  The reader of expressions: within, a part that stands within one more of what can be open.
  The reader of expressions: expression, andPart, sum, term, notPart, comparison, nullBehindIs, enclosed, ended, each over what it calls.
  The reader of expressions: arguments, the closure of call, within at it, and call.
  The reader of expressions: columnOrCall, unit, and all parts of the grammar together.
  The reader of expressions: unit, and all parts of the grammar together, by induction on what is left to read.
  The contract of expr.Read.
  Names of nodes that came in are not too long.
-/
import Derived.Test.YtibbenhplmmmiaaGreatDoorMvEFit
import Derived.Deep.RegionHeld2
import Derived.Deep.AppendLies
import Derived.Test.YtibbenhplmmmiaaGreatDoorMgDDivP
import Derived.Test.YtibbenhplmmmiaaGreatDoorMtLByte
set_option maxRecDepth 4000
namespace Go.Proofs.YtibbenhplmmmiaaGreatDoor
open Go.RowKit Go.Shelf
attribute [local go_sem] z0e z0b z0c z0f z0m z0k z0h z0d z0g
structure Fr (w w':World) (p:Nat) (row:Option Nat):Prop where
 os:w'.os=w.os
 tape:w'.tape=w.tape
 output:w'.output=w.output
 size:w.heap.size≤w'.heap.size
 block:∀ k,k<w.heap.size→k≠p→row≠some k→w'.heap[k]?=w.heap[k]?
theorem Fr.refl (w:World) (p:Nat) (row:Option Nat):Fr w w p row:=⟨rfl,rfl,rfl,Nat.le_refl _,fun _ _ _ _=>rfl⟩
theorem Fr.of_below {w w':World} (h:Below w.heap.size w w') (p:Nat) (row:Option Nat):Fr w w' p row:=⟨h.os,h.tape,h.output,h.size,fun k hk _ _=>h.block k hk⟩
theorem Fr.trans {w w1 w2:World} {p:Nat} {r r1:Option Nat} (h:Fr w w1 p r) (h1:Fr w1 w2 p r1) (hr:∀ k,r1=some k→r=some k∨w.heap.size≤k):Fr w w2 p r:=by
 refine ⟨h1.os.trans h.os,h1.tape.trans h.tape,h1.output.trans h.output,Nat.le_trans h.size h1.size,fun k hk hp hn=>?_⟩
 rw [h1.block k (Nat.lt_of_lt_of_le hk h.size) hp (fun e=>?_)]
 ·exact h.block k hk hp hn
 ·rcases hr k e with h'|h'
  ·exact hn h'
  ·omega
theorem Fr.below {w w':World} {p:Nat} {r:Option Nat} {B:Nat} {w0:World} (h:Fr w w' p r) (hb:Below B w0 w) (hw:B≤w.heap.size) (hp:B≤p) (hr:∀ k,r=some k→B≤k):Below B w0 w':=by
 refine ⟨h.os.trans hb.os,h.tape.trans hb.tape,h.output.trans hb.output,Nat.le_trans hb.size h.size,fun k hk=>?_⟩
 rw [h.block k (by omega) (by omega) (fun e=>by have:=hr k e;omega)]
 exact hb.block k hk
def z6f (x:List Nd):List Value:=x.flatMap fun t=>(ncs t).toList
abbrev Nowns (w:World) (base:Nat) (v:Value) (x:List Nd):Prop:=w.ownsRow base 99 8 v x.length (z6f x)
theorem ncells_snoc (x:List Nd) (t:Nd):z6f (x++[t])=z6f x++(ncs t).toList:=by
 simp [z6f]
theorem one_nd (x:Nd):∀ u∈(ncs x).toList,u.oneCell'=true:=by
 intro u hu
 simp at hu
 rcases hu with rfl|rfl|rfl|rfl|rfl|rfl|rfl|rfl <;> rfl
theorem infoNd:(Tryz.prog.info? 99).map (fun i=>(i.zero,i.size,i.bytes))=some (some (.agg #[.int .i64 0,.string ⟨#[]⟩,.string ⟨#[]⟩,.int .i64 0,.int .i64 0,.int .i64 0,.string ⟨#[]⟩,.int .i64 0]),8,88):=by kernel_rfl
theorem Nowns.push {w:World} {base n:Nat} {v:Value} {acc:List Nd} {x:Nd} (h:w.ownsRow base 99 8 v n (z6f acc++(ncs x).toList)) (hn:n=acc.length+1):Nowns w base v (acc++[x]):=by
 unfold Nowns
 rw [ncells_snoc,List.length_append]
 subst hn
 exact h
def Goes (p:Nat) (w w':World) (nv nv':Value):Prop:=Fr w w' p nv.ownBlock∧∀ g,nv'.ownBlock=some g→nv.ownBlock=some g∨w.heap.size≤g
theorem Goes.refl (p:Nat) (w:World) (nv:Value):Goes p w w nv nv:=⟨Fr.refl _ _ _,fun _ h=>.inl h⟩
theorem Goes.of_fr {p:Nat} {w w':World} (h:Fr w w' p none) (nv:Value):Goes p w w' nv nv:=⟨⟨h.os,h.tape,h.output,h.size,fun k hk hp _=>h.block k hk hp (by simp)⟩,fun _ h=>.inl h⟩
theorem Goes.trans {p:Nat} {w w1 w2:World} {nv n1 n2:Value} (h:Goes p w w1 nv n1) (k:Goes p w1 w2 n1 n2):Goes p w w2 nv n2:=by
 refine ⟨h.1.trans k.1 h.2,fun g hg=>?_⟩
 rcases k.2 g hg with e|e
 ·exact h.2 g e
 ·exact .inr (Nat.le_trans h.1.size e)
theorem Nowns.shape {w:World} {base:Nat} {v:Value} {x:List Nd} (h:Nowns w base v x):∃ ao cap,v=.slice ao x.length cap:=by
 obtain ⟨h1,h2⟩:=h
 rcases h2 with ⟨rfl,hn⟩|⟨g,cap,cur,rfl,_⟩
 ·exact ⟨none,0,by rw [hn]⟩
 ·exact ⟨_,cap,rfl⟩
end Go.Proofs.YtibbenhplmmmiaaGreatDoor

namespace Go.Proofs.YtibbenhplmmmiaaGreatDoor
inductive NT|ex|an|no|co|su|te|un|en
end Go.Proofs.YtibbenhplmmmiaaGreatDoor

namespace Go.Proofs.YtibbenhplmmmiaaGreatDoor
open Go.RowKit Go.Shelf
attribute [local go_sem] z0e z0b z0c z0f z0m z0k z0h z0d z0g
theorem Goes.box {p q:Nat} {w w':World} {nv nv':Value} {cs:Array Value} {ty:TypeId} (h:Goes p w w' nv nv') (hc:Cbox w q cs ty) (hq:q≠p) (hr:∀ g,nv.ownBlock=some g→g≠q):Cbox w' q cs ty:=by
 show w'.heap[q]?=_
 rw [h.1.block q (Cbox.lt hc) hq (fun e=>hr q e rfl)]
 exact hc
theorem Goes.row {p q:Nat} {w w':World} {nv nv':Value} (h:Goes p w w' nv nv') (hl:q<w.heap.size) (hr:∀ g,nv.ownBlock=some g→g≠q):∀ g,nv'.ownBlock=some g→g≠q:=by
 intro g hg
 rcases h.2 g hg with e|e
 ·exact hr g e
 ·omega
theorem Goes.alloc {p:Nat} {wc w:World} {nc nv:Value} (h:Goes p wc w nc nv) (o:Obj):Goes p wc (w.alloc o) nc nv:=h.trans (Goes.of_fr (Fr.of_below ((Below.refl _ w).alloc (Nat.le_refl _) o) p none) nv)
theorem ncells_at (x:List Nd):∀ (i j:Nat) (hi:i<x.length),j<8→(z6f x)[i*8+j]?=(ncs x[i])[j]?:=by
 induction x with
 | nil=>intro i j hi;simp at hi
 | cons t x ih =>
  intro i j hi hj
  have e:z6f (t::x)=(ncs t).toList++z6f x:=by simp [z6f]
  rw [e]
  cases i with
  | zero =>
   rw [List.getElem?_append_left (by simpa using hj)]
   simp
  | succ i =>
   rw [List.getElem?_append_right (by simp;omega)]
   simp at hi
   have:=ih i j hi hj
   simp only [List.getElem_cons_succ]
   rw [← this]
   congr 1
   simp;omega
theorem Nowns.lies {w:World} {base:Nat} {v:Value} {x:List Nd} (h:Nowns w base v x) :
  ∃ ao cap,v=.slice ao x.length cap∧Nw w ao x:=by
 obtain ⟨h1,h2⟩:=h
 rcases h2 with ⟨rfl,hn⟩|⟨g,cap,cur,rfl,hb,hg,hnc,hcm,hcs,htake⟩
 ·exact ⟨none,0,by rw [hn],fun hp=>by omega⟩
 ·refine ⟨some ⟨g,0,none⟩,cap,rfl,fun hp=>⟨g,0,rfl,fun i hi=>?_⟩⟩
  have hc:∀ j,j<8→w.cell? ⟨g,0+i*8+j,none⟩=(ncs x[i])[j]?:=by
   intro j hj
   rw [← ncells_at x i j hi hj,cell_of_row w g (0+i*8+j) cur _ (0,0) hg,← htake]
   rw [List.getElem?_take,if_pos (by omega),Nat.zero_add]
   simp
  exact ⟨hc 0 (by decide),hc 1 (by decide),hc 2 (by decide),hc 3 (by decide),hc 4 (by decide),hc 5 (by decide),hc 6 (by decide),hc 7 (by decide)⟩
def shN (l:List Nd):Prop:=∀ x∈l,x.t.length≤140737488351232∧x.n.length≤140737488351232
theorem depth_of (ao:Option Addr) (cap:Nat) (l:List Nd) (w:World) (hv:Nw w ao l) (hn:l.length≤140737488351232) (hs:shN l) (hT:Tabs w) :
  Calls Tryz.prog 113 #[.slice ao l.length cap] w fun e w'=>e=.returned (.int .i64 (depN mayN l:Int))∧Below w.heap.size w w' :=
 depth_any mayN ao cap l w hv hn z7w (fun x hx W h=>mayBe_any x W (hT.later h) (hs x hx).1 (hs x hx).2)
theorem right_of (ao:Option Addr) (cap:Nat) (l:List Nd) (w:World) (hv:Nw w ao l) (hn:l.length≤140737488351232) (hs:shN l) (hT:Tabs w) :
  Calls Tryz.prog 59 #[.slice ao l.length cap] w fun e w'=>e=.returned (.bool (decide (0<depN mayN l)))∧Below w.heap.size w w':=by
 have D:=depth_of ao cap l w hv hn hs hT
 generalize depN mayN l=d at *
 have e:decide (0<d)=decide ((0:Int)<(d:Int)):=by simp
 rw [e]
 clear e hv hs hT
 go_enter Tryz.func59,Tryz.ntmps59
 go_wp2_with (go_at_call 113;refine D.mono ?_;rintro e w1 ⟨rfl,b1⟩)
 go_ret
 exact ⟨by show Ending.returned _=_;congr 2;simp,b1⟩
end Go.Proofs.YtibbenhplmmmiaaGreatDoor

namespace Go.Proofs.YtibbenhplmmmiaaGreatDoor
open Go.ChangeShapes Go.WideShapes Go.ChangeAt Go.WideMaps Go.WideElems Go.RowKit Go.Shelf Go.Lib
theorem sh_of {H:Type} {ts:List TypeId} {ds:List (DataW H)} {j:Nat} {d:DataW H} {l:List Nd} (h:(DataW.weightsEach Tryz.prog ts ds).all (·≤reachBytes)=true) (ht:ts[j]?=some 44) (hd:ds[j]?=some d)
  (hl:∀ v∈l,v.t.length∈d.weights Tryz.prog 44∧v.n.length∈d.weights Tryz.prog 44):shN l:=by
 intro x hx
 have h1:=List.all_eq_true.1 h _ (DataW.weights_mem_each ht hd _ (hl x hx).1)
 have h2:=List.all_eq_true.1 h _ (DataW.weights_mem_each ht hd _ (hl x hx).2)
 simp only [decide_eq_true_eq] at h1 h2
 exact ⟨h1,h2⟩
end Go.Proofs.YtibbenhplmmmiaaGreatDoor
