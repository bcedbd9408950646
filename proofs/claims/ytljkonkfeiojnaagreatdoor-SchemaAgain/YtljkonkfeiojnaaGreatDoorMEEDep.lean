/-
  Tokens as they lie in memory; the contract of lexer.tokenAt.
  The contract of expr.Depth, over contracts of operands and mayBe.
-/
import Derived.Test.YtljkonkfeiojnaaGreatDoorMCLByte
import Derived.Test.YtljkonkfeiojnaaGreatDoorLTold
import Derived.Deep.RegionWith
set_option maxHeartbeats 4000000
set_option maxRecDepth 20000
namespace Go.Proofs.YtljkonkfeiojnaaGreatDoor
open Go.RowKit Go.Shelf
attribute [local go_sem] z0f z0b z0c z0e z0m z0k z0h z0d z0g
abbrev Tok:=Tk Va
abbrev vz:Va:=⟨0,0,0,[]⟩
abbrev tcs (x:Tok):Array Value:=#[.int .i64 (x.k:Int),.string ⟨x.t.toArray⟩,.int .i64 x.v.k,.int .i64 x.v.n,.int .i64 x.v.m,.string ⟨x.v.b.toArray⟩,.int .i64 (x.a:Int)]
abbrev tkv (x:Tok):Value:=.agg (tcs x)
def Cbox (w:World) (p:Nat) (cs:Array Value) (ty:TypeId):Prop:=w.heap[p]?=some (.cells cs ty (0,0))
theorem Cbox.lt {w:World} {p:Nat} {cs:Array Value} {ty:TypeId} (h:Cbox w p cs ty):p<w.heap.size:=by
 by_cases hp:p<w.heap.size
 ·exact hp
 ·unfold Cbox at h
  rw [Array.getElem?_eq_none (by omega)] at h
  cases h
theorem Cbox.later {w w':World} {p:Nat} {cs:Array Value} {ty:TypeId} (h:Cbox w p cs ty) (hb:Below w.heap.size w w'):Cbox w' p cs ty:=by
 unfold Cbox
 rw [hb.block p h.lt]
 exact h
theorem Cbox.at {w:World} {p:Nat} {cs:Array Value} {ty:TypeId} (h:Cbox w p cs ty) (j:Nat):w.cell? ⟨p,j,none⟩=cs[j]?:=cell_of_row w p j _ _ (0,0) h
theorem Cbox.free {w:World} {p:Nat} {cs:Array Value} {ty:TypeId} (h:Cbox w p cs ty) (j:Nat):w.frozen? ⟨p,j,none⟩=false:=by
 unfold Cbox at h
 simp [World.frozen?,h]
theorem Cbox.new (w:World) (cs:Array Value) (ty:TypeId):Cbox (w.alloc (.cells cs ty)) w.heap.size cs ty:=by
 unfold Cbox
 show (w.heap.push _)[w.heap.size]?=_
 simp
theorem bl_set {B off:Nat} {a w:World} (h:Below B a w) (u:Value):Below B a (w.setCell ⟨B,off,none⟩ u):=h.setCell (Nat.le_refl _) u
theorem bl_set2 {B b off:Nat} {a w:World} (h:Below B a w) (hb:B≤b) (u:Value):Below B a (w.setCell ⟨b,off,none⟩ u):=h.setCell hb u
theorem kind_le (l:List UInt8):(lxt l).1≤3:=by
 match l with
 | []=>simp [lxt]
 | c::l =>
  rw [z7r]
  repeat' split
  all_goals simp
theorem lit_take (l:List UInt8) (h:(lxt l).1=3):litH (l.take (lxt l).2):=by
 have hp:=lxt_pos l (by omega)
 match l,h with
 | c::l,h =>
  obtain ⟨n,hn⟩:∃ n,(lxt (c::l)).2=n+1:=⟨_,(Nat.sub_add_cancel hp).symm⟩
  rw [hn,List.take_succ_cons]
  refine ⟨c,_,rfl,?_⟩
  rw [z7r] at h
  split at h
  ·cases h
  split at h
  ·rename_i hd;exact .inr hd
  split at h
  ·rename_i hq;exact .inl hq
  split at h
  ·cases h
  split at h
  ·cases h
  split at h <;> cases h
theorem tokenAt_name (B TB:ByteArray) (i n L:Nat) (w:World) (hsz:B.size=L) (hin:i+n≤L) (_hL:L≤140737488351232) (hx:B.extract i (i+n)=TB)
  (D:∀ W,Calls Tryz.prog 74 #[.string B,.int .i64 (i:Int)] W fun e w'=>e=.returned (.tuple #[.int .i64 1,.int .i64 ((i:Int)+(n:Int))])∧W=w')
  (C:∀ W,Calls Tryz.prog 35 #[.string TB] W fun e w'=>e=.returned (.string TB)∧Below W.heap.size W w')
  (b:Bool) (F:∀ W,Calls Tryz.prog 75 #[.string TB] W fun e w'=>e=.returned (.bool b)∧W=w') :
  Calls Tryz.prog 65 #[.string B,.int .i64 (i:Int)] w fun e w'=>e=.returned (.tuple #[.agg #[.int .i64 1,.string TB,.int .i64 0,.int .i64 0,.int .i64 0,.string ⟨#[]⟩,.int .i64 (i:Int)],.bool b])∧Below w.heap.size w w':=by
 have Z:=Cbox.new w #[.int .i64 0,.string ⟨#[]⟩,.int .i64 0,.int .i64 0,.int .i64 0,.string ⟨#[]⟩,.int .i64 0] 112
 have j0:(0:Int)≤(i:Int):=by omega
 have j2:(i:Int)≤(i:Int)+(n:Int):=by omega
 have j3:(i:Int)+(n:Int)≤(L:Int):=by omega
 have j4:((i:Int)+(n:Int)).toNat=i+n:=by omega
 go_enter Tryz.func65,Tryz.ntmps65
 go_wp2_with (first
  | (go_at_call 74;refine (D _).mono ?_;rintro e w' ⟨rfl,rfl⟩)
  | (go_at_call 35;refine (C _).mono ?_;rintro e w1 ⟨rfl,b1⟩;have Z1:=Z.later b1;have zz:=Z1;have z0:=zz.at 0;have z1:=zz.at 1;have z2:=zz.at 2;have z3:=zz.at 3;have z4:=zz.at 4;have z5:=zz.at 5;have z6:=zz.at 6;have f0:=zz.free 0;have f1:=zz.free 1;have f2:=zz.free 2;have f3:=zz.free 3;have f4:=zz.free 4;have f5:=zz.free 5;have f6:=zz.free 6;have lt1:=zz.lt;clear zz))
 have B1:Below w.heap.size w w1:=((Below.refl _ w).alloc (Nat.le_refl _) _).trans (b1.mono (by simp))
 have hs1:=B1.size
 have lt2:w.heap.size<w1.heap.size+1:=by omega
 go_region_with (go_at_call 75;refine (F _).mono ?_;rintro e w' ⟨rfl,rfl⟩)
 all_goals go_wp2
 all_goals refine bodyPost_ret_by (v:=.tuple #[.agg #[.int .i64 1,.string TB,.int .i64 0,.int .i64 0,.int .i64 0,.string ⟨#[]⟩,.int .i64 (i:Int)],.bool b]) ?_ rfl ⟨rfl,?_⟩
 all_goals first
  | (simp [results,Tryz.results65,go_sem,z0,z1,z2,z3,z4,z5,z6,lt1];done)
  | skip
 all_goals (repeat (first|with_reducible exact B1|with_reducible refine bl_set ?_ _|with_reducible refine Below.drew ?_|with_reducible refine Below.alloc ?_ (by simp;omega) _|with_reducible refine bl_set2 ?_ (by omega) _))
theorem tokenAt_sign (B TB:ByteArray) (i n L:Nat) (w:World) (hsz:B.size=L) (hin:i+n≤L) (_hL:L≤140737488351232) (hx:B.extract i (i+n)=TB)
  (D:∀ W,Calls Tryz.prog 74 #[.string B,.int .i64 (i:Int)] W fun e w'=>e=.returned (.tuple #[.int .i64 2,.int .i64 ((i:Int)+(n:Int))])∧W=w')
  (C:∀ W,Calls Tryz.prog 35 #[.string TB] W fun e w'=>e=.returned (.string TB)∧Below W.heap.size W w') :
  Calls Tryz.prog 65 #[.string B,.int .i64 (i:Int)] w fun e w'=>e=.returned (.tuple #[.agg #[.int .i64 2,.string TB,.int .i64 0,.int .i64 0,.int .i64 0,.string ⟨#[]⟩,.int .i64 (i:Int)],.bool true])∧Below w.heap.size w w':=by
 have Z:=Cbox.new w #[.int .i64 0,.string ⟨#[]⟩,.int .i64 0,.int .i64 0,.int .i64 0,.string ⟨#[]⟩,.int .i64 0] 112
 have j0:(0:Int)≤(i:Int):=by omega
 have j2:(i:Int)≤(i:Int)+(n:Int):=by omega
 have j3:(i:Int)+(n:Int)≤(L:Int):=by omega
 have j4:((i:Int)+(n:Int)).toNat=i+n:=by omega
 go_enter Tryz.func65,Tryz.ntmps65
 go_wp2_with (first
  | (go_at_call 74;refine (D _).mono ?_;rintro e w' ⟨rfl,rfl⟩)
  | (go_at_call 35;refine (C _).mono ?_;rintro e w1 ⟨rfl,b1⟩;have Z1:=Z.later b1;have zz:=Z1;have z0:=zz.at 0;have z1:=zz.at 1;have z2:=zz.at 2;have z3:=zz.at 3;have z4:=zz.at 4;have z5:=zz.at 5;have z6:=zz.at 6;have f0:=zz.free 0;have f1:=zz.free 1;have f2:=zz.free 2;have f3:=zz.free 3;have f4:=zz.free 4;have f5:=zz.free 5;have f6:=zz.free 6;have lt1:=zz.lt;clear zz))
 have B1:Below w.heap.size w w1:=((Below.refl _ w).alloc (Nat.le_refl _) _).trans (b1.mono (by simp))
 have hs1:=B1.size
 have lt2:w.heap.size<w1.heap.size+1:=by omega
 all_goals go_wp2
 all_goals refine bodyPost_ret_by (v:=.tuple #[.agg #[.int .i64 2,.string TB,.int .i64 0,.int .i64 0,.int .i64 0,.string ⟨#[]⟩,.int .i64 (i:Int)],.bool true]) ?_ rfl ⟨rfl,?_⟩
 all_goals first
  | (simp [results,Tryz.results65,go_sem,z0,z1,z2,z3,z4,z5,z6,lt1];done)
  | skip
 all_goals (repeat (first|with_reducible exact B1|with_reducible refine bl_set ?_ _|with_reducible refine Below.drew ?_|with_reducible refine Below.alloc ?_ (by simp;omega) _|with_reducible refine bl_set2 ?_ (by omega) _))
theorem tokenAt_lit (B TB:ByteArray) (i n L:Nat) (w:World) (hsz:B.size=L) (hin:i+n≤L) (_hL:L≤140737488351232) (hx:B.extract i (i+n)=TB)
  (D:∀ W,Calls Tryz.prog 74 #[.string B,.int .i64 (i:Int)] W fun e w'=>e=.returned (.tuple #[.int .i64 3,.int .i64 ((i:Int)+(n:Int))])∧W=w')
  (C:∀ W,Calls Tryz.prog 35 #[.string TB] W fun e w'=>e=.returned (.string TB)∧Below W.heap.size W w')
  (vk vn vm E:Int) (vb:ByteArray) (V:∀ W,Below w.heap.size w W→Calls Tryz.prog 87 #[.string TB] W fun e w'=>e=.returned (.tuple #[va vk vn vm vb,.int .i64 E])∧Below W.heap.size W w') :
  Calls Tryz.prog 65 #[.string B,.int .i64 (i:Int)] w fun e w'=>e=.returned (.tuple #[.agg #[.int .i64 3,.string TB,.int .i64 vk,.int .i64 vn,.int .i64 vm,.string vb,.int .i64 (i:Int)],.bool (E==0)])∧Below w.heap.size w w':=by
 have Z:=Cbox.new w #[.int .i64 0,.string ⟨#[]⟩,.int .i64 0,.int .i64 0,.int .i64 0,.string ⟨#[]⟩,.int .i64 0] 112
 have j0:(0:Int)≤(i:Int):=by omega
 have j2:(i:Int)≤(i:Int)+(n:Int):=by omega
 have j3:(i:Int)+(n:Int)≤(L:Int):=by omega
 have j4:((i:Int)+(n:Int)).toNat=i+n:=by omega
 go_enter Tryz.func65,Tryz.ntmps65
 go_wp2_with (first
  | (go_at_call 74;refine (D _).mono ?_;rintro e w' ⟨rfl,rfl⟩)
  | (go_at_call 35;refine (C _).mono ?_;rintro e w1 ⟨rfl,b1⟩;have Z1:=Z.later b1))
 have B1:Below w.heap.size w w1:=((Below.refl _ w).alloc (Nat.le_refl _) _).trans (b1.mono (by simp))
 have hs1:=B1.size
 have lt2:w.heap.size<w1.heap.size+1:=by omega
 refine (V _ (B1.alloc hs1 _)).mono ?_
 rintro e w2 ⟨rfl,b2⟩
 have yy:Cbox w2 w1.heap.size #[.int .i64 3,.string TB,.int .i64 0,.int .i64 0,.int .i64 0,.string ⟨#[]⟩,.int .i64 (i:Int)] 112:=(Cbox.new w1 _ _).later b2
 have b12:Below w1.heap.size w1 w2:=((Below.refl _ w1).alloc (Nat.le_refl _) _).trans (b2.mono (by simp))
 have zz:=Z1.later b12
 have B2:Below w.heap.size w w2:=B1.trans (b12.mono hs1)
 have lz:w.heap.size<w1.heap.size:=Z1.lt
 have lne:¬ w.heap.size=w1.heap.size:=by omega
 have lne2:¬ w1.heap.size=w.heap.size:=by omega
 have z0:=zz.at 0
 have z1:=zz.at 1
 have z2:=zz.at 2
 have z3:=zz.at 3
 have z4:=zz.at 4
 have z5:=zz.at 5
 have z6:=zz.at 6
 have f0:=zz.free 0
 have f1:=zz.free 1
 have f2:=zz.free 2
 have f3:=zz.free 3
 have f4:=zz.free 4
 have f5:=zz.free 5
 have f6:=zz.free 6
 have lt1:=zz.lt
 clear zz
 have y0:=yy.at 0
 have y1:=yy.at 1
 have y2:=yy.at 2
 have y3:=yy.at 3
 have y4:=yy.at 4
 have y5:=yy.at 5
 have y6:=yy.at 6
 have g0:=yy.free 0
 have g1:=yy.free 1
 have g2:=yy.free 2
 have g3:=yy.free 3
 have g4:=yy.free 4
 have g5:=yy.free 5
 have g6:=yy.free 6
 have ly1:=yy.lt
 clear yy
 have lt3:w.heap.size<w2.heap.size+1:=by omega
 have lt4:w1.heap.size<w2.heap.size+1:=by omega
 clear b1 b2 b12 Z Z1 V C D
 go_wp2
 refine bodyPost_ret_by (v:=.tuple #[.agg #[.int .i64 3,.string TB,.int .i64 vk,.int .i64 vn,.int .i64 vm,.string vb,.int .i64 (i:Int)],.bool (E==0)]) ?_ rfl ⟨rfl,?_⟩
 ·simp [results,Tryz.results65,go_sem,z0,z1,z2,z3,z4,z5,z6,lt1]
 ·(repeat (first|with_reducible exact B2|with_reducible refine bl_set ?_ _|with_reducible refine Below.drew ?_|with_reducible refine Below.alloc ?_ (by simp;omega) _|with_reducible refine bl_set2 ?_ (by omega) _))
theorem tokenAt_any (l:List UInt8) (i:Nat) (w:World) (hl:l.length≤140737488351232) (hi:i≤l.length) (hT:Tabs w) (hP:Ptab w) :
  Calls Tryz.prog 65 #[.string ⟨l.toArray⟩,.int .i64 (i:Int)] w fun e w'=>(match tok vz dpv (l.drop i) i with|none=>∃ x:Tok,e=.returned (.tuple #[tkv x,.bool false])|some x=>e=.returned (.tuple #[tkv x,.bool true]))∧Below w.heap.size w w':=by
 have D:=fun W=>z7b l i W hl
 unfold tv at D
 have hle:=lxt_le (l.drop i)
 rw [List.length_drop] at hle
 have hsz:(ByteArray.mk l.toArray).size=l.length:=rfl
 have hx:(ByteArray.mk l.toArray).extract i (i+(lxt (l.drop i)).2)=⟨((l.drop i).take (lxt (l.drop i)).2).toArray⟩:=by
  rw [z3v]
  congr 1
  congr 1
  rw [List.drop_take];simp
 have C:∀ W,Calls Tryz.prog 35 #[.string ⟨((l.drop i).take (lxt (l.drop i)).2).toArray⟩] W fun e w'=>e=.returned (.string ⟨((l.drop i).take (lxt (l.drop i)).2).toArray⟩)∧Below W.heap.size W w':=fun W=>z4a _ W (by show ((l.drop i).take (lxt (l.drop i)).2).length≤_;simp;omega)
 have F:=fun W=>z8z ⟨((l.drop i).take (lxt (l.drop i)).2).toArray⟩ W
 have hfs:(ByteArray.mk ((l.drop i).take (lxt (l.drop i)).2).toArray).size=(lxt (l.drop i)).2:=by show ((l.drop i).take (lxt (l.drop i)).2).length=_;simp;omega
 rw [hfs] at F
 have hlit:=lit_take (l.drop i)
 have hk:=kind_le (l.drop i)
 unfold tok
 have V:(lxt (l.drop i)).1=3→∀ W,Below w.heap.size w W→Calls Tryz.prog 87 #[.string ⟨((l.drop i).take (lxt (l.drop i)).2).toArray⟩] W fun e w'=>e=.returned (dpR (dpv ((l.drop i).take (lxt (l.drop i)).2)))∧Below W.heap.size W w':=fun h W hb=>vparse_any _ W (by simp;omega) (hlit h) (hT.later hb) (hP.later hb)
 clear hlit hT hP
 generalize (l.drop i).take (lxt (l.drop i)).2=t at *
 generalize (lxt (l.drop i)).2=n at *
 generalize (lxt (l.drop i)).1=k at *
 have hin:i+n≤l.length:=by omega
 by_cases k0:k=0
 ·subst k0
  rw [if_pos rfl]
  clear C F hfs V hx hin
  generalize ByteArray.mk l.toArray=B at *
  go_enter Tryz.func65,Tryz.ntmps65
  go_wp2_with (go_at_call 74;refine (D _).mono ?_;rintro e w' ⟨rfl,rfl⟩)
  refine bodyPost_ret_by (v:=.tuple #[tkv ⟨0,[],vz,0⟩,.bool false]) ?_ rfl ⟨⟨⟨0,[],vz,0⟩,rfl⟩,?_⟩
  ·simp [results,Tryz.results65,go_sem]
  ·exact (Below.refl _ w).alloc (Nat.le_refl _) _
 rw [if_neg k0] at D ⊢
 rw [show ((i+n:Nat):Int)=(i:Int)+(n:Int) by omega] at D
 by_cases k1:k=1
 ·subst k1
  rw [if_pos rfl]
  have R:=tokenAt_name _ _ i n l.length w hsz hin hl hx D C _ F
  by_cases hn:n≤32
  ·rw [if_pos hn]
   rw [decide_eq_true hn] at R
   exact R
  ·rw [if_neg hn]
   rw [decide_eq_false hn] at R
   refine R.mono ?_
   rintro e w' ⟨rfl,hb⟩
   exact ⟨⟨⟨1,t,vz,i⟩,rfl⟩,hb⟩
 rw [if_neg k1]
 by_cases k3:k=3
 ·subst k3
  rw [if_pos rfl]
  have V':=V rfl
  cases hdp:dpv t with
  | none =>
   rw [hdp] at V'
   refine (tokenAt_lit _ _ i n l.length w hsz hin hl hx D C 0 0 0 21 ⟨#[]⟩ V').mono ?_
   rintro e w' ⟨rfl,hb⟩
   exact ⟨⟨⟨3,t,vz,i⟩,rfl⟩,hb⟩
  | some v =>
   rw [hdp] at V'
   exact tokenAt_lit _ _ i n l.length w hsz hin hl hx D C v.k v.n v.m 0 ⟨v.b.toArray⟩ V'
 ·have k2:k=2:=by omega
  subst k2
  rw [if_neg k3]
  exact tokenAt_sign _ _ i n l.length w hsz hin hl hx D C
end Go.Proofs.YtljkonkfeiojnaaGreatDoor

namespace Go.Proofs.YtljkonkfeiojnaaGreatDoor
open Go.RowKit
attribute [local go_sem] z0f z0b z0c z0e z0m z0k z0h z0d z0g
def N8 (w:World) (b o:Nat) (x:Nd):Prop :=
 w.cell? ⟨b,o,none⟩=some (.int .i64 x.o)∧w.cell? ⟨b,o+1,none⟩=some (.string ⟨x.t.toArray⟩)∧w.cell? ⟨b,o+2,none⟩=some (.string ⟨x.n.toArray⟩)∧w.cell? ⟨b,o+3,none⟩=some (.int .i64 x.v.k)∧w.cell? ⟨b,o+4,none⟩=some (.int .i64 x.v.n) ∧
  w.cell? ⟨b,o+5,none⟩=some (.int .i64 x.v.m)∧w.cell? ⟨b,o+6,none⟩=some (.string ⟨x.v.b.toArray⟩)∧w.cell? ⟨b,o+7,none⟩=some (.int .i64 x.a)
theorem N8.lt {w:World} {b o:Nat} {x:Nd} (h:N8 w b o x):b<w.heap.size:=World.block_lt_of_cell? w _ h.1
theorem N8.later {w w':World} {b o:Nat} {x:Nd} (h:N8 w b o x) (hb:Below w.heap.size w w'):N8 w' b o x:=by
 have hl:=h.lt
 obtain ⟨h0,h1,h2,h3,h4,h5,h6,h7⟩:=h
 exact ⟨(hb.cell (p:=⟨b,o,none⟩) hl).trans h0,(hb.cell (p:=⟨b,o+1,none⟩) hl).trans h1,(hb.cell (p:=⟨b,o+2,none⟩) hl).trans h2,(hb.cell (p:=⟨b,o+3,none⟩) hl).trans h3,(hb.cell (p:=⟨b,o+4,none⟩) hl).trans h4,(hb.cell (p:=⟨b,o+5,none⟩) hl).trans h5,(hb.cell (p:=⟨b,o+6,none⟩) hl).trans h6,(hb.cell (p:=⟨b,o+7,none⟩) hl).trans h7⟩
def Nw (w:World) (ao:Option Addr) (l:List Nd):Prop :=
 0<l.length→∃ b off,ao=some ⟨b,off,none⟩∧∀ i (h:i<l.length),N8 w b (off+i*8) l[i]
theorem Nw.later {w w':World} {ao:Option Addr} {l:List Nd} (h:Nw w ao l) (hb:Below w.heap.size w w'):Nw w' ao l:=by
 intro hp
 obtain ⟨b,off,e,hc⟩:=h hp
 exact ⟨b,off,e,fun i hi=>(hc i hi).later hb⟩
def maxD (ds:List Nat):Nat:=ds.foldl (fun m d=>max m (d+1)) 1
def stepD (may:Nd→Bool) (st:List Nat) (x:Nd):Option (List Nat) :=
 if may x=true∧opsN x≤(st.length:Int) then some (st.take (st.length - (opsN x).toNat)++[maxD (st.drop (st.length - (opsN x).toNat))]) else none
def runD (may:Nd→Bool):List Nd→List Nat→Option (List Nat)
 | [],st=>some st
 | x::l,st=>match stepD may st x with|none=>none|some st'=>runD may l st'
def depO (r:Option (List Nat)):Nat:=match r with|some [d]=>if d≤16 then d else 0|_=>0
def depN (may:Nd→Bool) (l:List Nd):Nat:=if l.length≤256 then depO (runD may l []) else 0
def iv (ds:List Nat):List Value:=ds.map fun (d:Nat)=>.int .i64 (d:Int)
theorem iv_len (ds:List Nat):(iv ds).length=ds.length:=by simp [iv]
abbrev Ks (w:World) (base:Nat) (v:Value) (ds:List Nat):Prop:=w.ownsRow base 3 1 v ds.length (iv ds)
theorem Ks.shape {w:World} {base:Nat} {v:Value} {ds:List Nat} (h:Ks w base v ds) :
  ∃ ao cap,v=.slice ao ds.length cap∧ds.length≤cap∧(ao=none→ds=[]∧cap=0)∧(∀ f,f≤ds.length→Ks w base (.slice ao f cap) (ds.take f))∧(∀ a,ao=some a→∃ g,a=⟨g,0,none⟩∧base≤g∧g<w.heap.size∧∀ i (h:i<ds.length),w.cell? ⟨g,i,none⟩=some (.int .i64 (ds[i]:Int))):=by
 obtain ⟨h1,h2⟩:=h
 rcases h2 with ⟨rfl,hn⟩|⟨g,cap,cur,rfl,hb,hg,hnc,hcm,hcs,htake⟩
 ·have:ds=[]:=List.length_eq_zero_iff.1 hn
  subst this
  exact ⟨none,0,rfl,Nat.le_refl _,fun _=>⟨rfl,rfl⟩,fun f hf=>by simp at hf;subst hf;exact World.ownsRow_nil _ _ _ _,fun a ha=>by cases ha⟩
 ·refine ⟨some ⟨g,0,none⟩,cap,rfl,hnc,(fun h=>by cases h),fun f hf=>?_,fun a ha=>?_⟩
  ·have e:(ds.take f).length=f:=by rw [List.length_take];omega
   show w.ownsRow base _ 1 _ (ds.take f).length _
   rw [e]
   refine ⟨by rw [iv_len,e,Nat.mul_one],.inr ⟨g,cap,cur,rfl,hb,hg,by omega,hcm,hcs,?_⟩⟩
   rw [Nat.mul_one] at htake ⊢
   have:cur.toList.take f=(cur.toList.take ds.length).take f:=by rw [List.take_take,Nat.min_eq_left hf]
   rw [this,htake]
   simp [iv,List.map_take]
  ·cases ha
   have hlt:g<w.heap.size:=by
    rcases Nat.lt_or_ge g w.heap.size with h|h
    ·exact h
    ·rw [Array.getElem?_eq_none h] at hg;cases hg
   refine ⟨g,rfl,hb,hlt,fun i hi=>?_⟩
   have hc:=cell_of_row w g i cur _ (0,0) hg
   rw [hc]
   have h3:cur[i]?=(cur.toList.take (ds.length*1))[i]?:=by
    rw [List.getElem?_take,if_pos (by omega)];simp
   rw [h3,htake]
   simp [iv,hi]
theorem maxD_le_aux (ds:List Nat) (k:Nat) (h:∀ d∈ds,d≤k):∀ m,m≤k+1→ds.foldl (fun m d=>max m (d+1)) m≤k+1:=by
 induction ds with
 | nil=>intro m hm;exact hm
 | cons d ds ih =>
  intro m hm
  have:=h d (by simp)
  exact ih (fun x hx=>h x (by simp [hx])) _ (Nat.max_le.2 ⟨hm,by omega⟩)
theorem maxD_le (ds:List Nat) (k:Nat) (h:∀ d∈ds,d≤k):maxD ds≤k+1:=maxD_le_aux ds k h 1 (by omega)
theorem Ks.push' {w:World} {base n d:Nat} {v:Value} {ds:List Nat} (hl:ds.length=n) (h:w.ownsRow base 3 1 v (n+1) (iv ds++[.int .i64 (d:Int)])):Ks w base v (ds++[d]):=by
 subst hl
 show w.ownsRow _ _ _ _ (ds++[d]).length (iv (ds++[d]))
 have e1:(ds++[d]).length=ds.length+1:=by simp
 have e2:iv (ds++[d])=iv ds++[.int .i64 (d:Int)]:=by simp [iv]
 rw [e1,e2]
 exact h
theorem Ks.push {w:World} {base d:Nat} {v:Value} {ds:List Nat} (h:w.ownsRow base 3 1 v (ds.length+1) (iv ds++[.int .i64 (d:Int)])):Ks w base v (ds++[d]):=Ks.push' rfl h
theorem infoInt:(Tryz.prog.info? 3).map (fun i=>(i.zero,i.size,i.bytes))=some (some (.int .i64 0),1,8):=by kernel_rfl
theorem cst1 (k:Nat):(k:Int)+1=((k+1:Nat):Int):=by omega
theorem Ks.later {w w':World} {base:Nat} {v:Value} {ds:List Nat} (h:Ks w base v ds) (hb:Below w.heap.size w w'):Ks w' base v ds :=
 World.ownsRow.kept (row:=none) h ⟨hb.os,hb.tape,hb.output,hb.size,fun k hk _=>hb.block k hk⟩ (by
  cases hv:v.ownBlock with
  | none=>exact .inl rfl
  | some k=>exact .inr (by simp))
theorem depth_any (may:Nd→Bool) (ao:Option Addr) (cap:Nat) (l:List Nd) (w:World) (hv:Nw w ao l) (hn:l.length≤140737488351232)
  (hops:∀ x,may x=true→0≤opsN x∧opsN x≤4)
  (M:∀ x∈l,∀ W,Below w.heap.size w W→Calls Tryz.prog 104 #[ndv x] W fun e w'=>e=.returned (.bool (may x))∧Below W.heap.size W w') :
  Calls Tryz.prog 78 #[.slice ao l.length cap] w fun e w'=>e=.returned (.int .i64 (depN may l:Int))∧Below w.heap.size w w':=by
 obtain ⟨i0,hi,hz0,hz1,hz2⟩:=info_parts infoInt
 have O:=fun x W=>operands_any x W
 by_cases hl:l.length≤256
 case neg =>
  have hl':(256:Int)<(l.length:Int):=by omega
  unfold depN
  rw [if_neg hl]
  go_enter Tryz.func78,Tryz.ntmps78
  go_wp2
  go_ret
  exact ⟨rfl,Below.refl _ _⟩
 have hl':¬ (256:Int)<(l.length:Int):=by omega
 unfold depN
 rw [if_pos hl]
 obtain ⟨R,hR⟩:∃ R,R=runD may l []:=⟨_,rfl⟩
 rw [← hR]
 have HR:Hid (R=runD may (l.drop 0) []):=hR
 clear hR
 obtain ⟨n,hnn⟩:∃ n,l.length=n:=⟨_,rfl⟩
 rw [hnn] at hn hl hl' ⊢
 have HN:Hid (l.length=n):=hnn
 clear hnn
 go_enter Tryz.func78,Tryz.ntmps78
 go_wp2
 go_loopw [3,15] (fun r3 r15 wr=>∃ (k:Nat) (st:List Nat),r15=.int .i64 (k:Int)∧k≤n∧st.length≤k∧(∀ d∈st,d≤k)∧Ks wr w.heap.size r3 st∧Below w.heap.size w wr∧Hid (R=runD may (l.drop k) st)) (fun _ r _=>n - (intOf r).toNat)
 case atStart=>exact ⟨0,[],rfl,Nat.zero_le _,Nat.zero_le _,(fun d h=>by cases h),World.ownsRow_nil _ _ _ _,Below.refl _ _,HR⟩
 case round =>
  obtain ⟨k,st,rfl,hk,hst,hsd,ho,hb,hH⟩:=hrel
  have sB:=hb.size
  obtain ⟨so,sc,rfl,hsc,hsn,hcut,hcell⟩:=ho.shape
  by_cases hlt:k<n
  ·have hlt':(k:Int)<(n:Int):=by omega
   have hkl:k<l.length:=by rw [HN.out];exact hlt
   obtain ⟨b,off,rfl,hc⟩:=hv (by omega)
   obtain ⟨c0,c1,c2,c3,c4,c5,c6,c7⟩:=((hc k (by omega)).later hb)
   have hg:=(hc k (by omega)).lt
   have hg':b<wr.heap.size:=by omega
   have hdr:l.drop k=l[k]::l.drop (k+1):=List.drop_eq_getElem_cons hkl
   obtain ⟨x,he⟩:∃ x:Nd,x=l[k]:=⟨_,rfl⟩
   rw [← he] at c0 c1 c2 c3 c4 c5 c6 c7 hdr
   have Ox:=fun W=>O x W
   have Mx:=fun W h=>M x (by rw [he];exact List.getElem_mem _) W h
   have hox:=hops x
   have HH:Hid (R=match stepD may st x with|none=>none|some st'=>runD may (l.drop (k+1)) st'):=by
    show R=_
    rw [hH.out,hdr];rfl
   clear hc he O M hops hH HR hdr
   obtain ⟨m,hm⟩:∃ m,may x=m:=⟨_,rfl⟩
   rw [hm] at Mx hox
   have hlen:((st.length:Nat):Int)≤256:=by omega
   cases m with
   | false =>
    have HF:Hid (depO R=0):=by
     show depO R=0
     rw [HH.out]
     unfold stepD
     rw [hm,if_neg (by simp)]
     rfl
    clear HH hm hox hcut hcell ho hsn
    obtain ⟨xo,xt,xn,xv,xa⟩:=x
    have A1:Below w.heap.size w (wr.alloc (.cells (ncs ⟨xo,xt,xn,xv,xa⟩) 74)):=hb.alloc sB _
    go_wp2_with (first
     | (go_at_call 103;refine (Ox _).mono ?_;rintro e w1 ⟨rfl,g1⟩;have b1:=g1.below;have Z:=(Cbox.new wr (ncs ⟨xo,xt,xn,xv,xa⟩) 74).later b1;have z0:=Z.at 0;have z1:=Z.at 1;have z2:=Z.at 2;have z3:=Z.at 3;have z4:=Z.at 4;have z5:=Z.at 5;have z6:=Z.at 6;have z7:=Z.at 7;have zl:=Z.lt;have B1:Below w.heap.size w w1:=A1.trans (b1.mono A1.size);clear g1 Z)
     | (go_at_call 104;refine (Mx _ B1).mono ?_;rintro e w2 ⟨rfl,b2⟩;have B2:=z0a B1 b2))
    go_ret
    exact ⟨by rw [HF.out];rfl,B2⟩
   | true =>
    obtain ⟨ho0,ho4⟩:=hox rfl
    obtain ⟨q,hq⟩:∃ q:Nat,opsN x=(q:Int):=⟨(opsN x).toNat,by omega⟩
    rw [hq] at Ox ho4
    by_cases hqs:q≤st.length
    case neg =>
     have HF:Hid (depO R=0):=by
      show depO R=0
      rw [HH.out]
      unfold stepD
      rw [hq,if_neg (by intro h;omega)]
      rfl
     have hfr:(st.length:Int) - (q:Int)<0:=by omega
     clear HH hm hq hox hcut hcell ho hsn ho0
     obtain ⟨xo,xt,xn,xv,xa⟩:=x
     have A1:Below w.heap.size w (wr.alloc (.cells (ncs ⟨xo,xt,xn,xv,xa⟩) 74)):=hb.alloc sB _
     go_wp2_with (first
      | (go_at_call 103;refine (Ox _).mono ?_;rintro e w1 ⟨rfl,g1⟩;have b1:=g1.below;have Z:=(Cbox.new wr (ncs ⟨xo,xt,xn,xv,xa⟩) 74).later b1;have z0:=Z.at 0;have z1:=Z.at 1;have z2:=Z.at 2;have z3:=Z.at 3;have z4:=Z.at 4;have z5:=Z.at 5;have z6:=Z.at 6;have z7:=Z.at 7;have zl:=Z.lt;have B1:Below w.heap.size w w1:=A1.trans (b1.mono A1.size);clear g1 Z)
      | (go_at_call 104;refine (Mx _ B1).mono ?_;rintro e w2 ⟨rfl,b2⟩;have B2:=z0a B1 b2))
     go_ret
     exact ⟨by rw [HF.out];rfl,B2⟩
    ·obtain ⟨f,hf⟩:∃ f:Nat,f=st.length - q:=⟨_,rfl⟩
     have hfr:(st.length:Int) - (q:Int)=(f:Int):=by omega
     have hfl:f≤st.length:=by omega
     have hf0:¬ ((f:Nat):Int)<0:=by omega
     have HS:Hid (R=runD may (l.drop (k+1)) (st.take f++[maxD (st.drop f)])):=by
      show R=_
      rw [HH.out]
      unfold stepD
      rw [hm,hq,if_pos ⟨rfl,by omega⟩,Int.toNat_natCast,← hf]
     clear HH hm hq hox hf ho0
     have hmax:=maxD_le (st.drop f) k (fun d hd=>hsd d (List.mem_of_mem_drop hd))
     have hsl:Hid (st.length=f+q):=by show st.length=f+q;omega
     by_cases hq0:q=0
     ·subst hq0
      have hfe:f=st.length:=by omega
      subst hfe
      have HS2:Hid (R=runD may (l.drop (k+1)) (st++[1])):=by
       show R=_
       rw [HS.out,List.take_length,List.drop_length];rfl
      clear hfr HS hsl hmax hfl hqs
      obtain ⟨xo,xt,xn,xv,xa⟩:=x
      have A1:Below w.heap.size w (wr.alloc (.cells (ncs ⟨xo,xt,xn,xv,xa⟩) 74)):=hb.alloc sB _
      go_wp2_with (first
       | (go_at_call 103;refine (Ox _).mono ?_;rintro e w1 ⟨rfl,g1⟩;have b1:=g1.below;have Z:=(Cbox.new wr (ncs ⟨xo,xt,xn,xv,xa⟩) 74).later b1;have z0:=Z.at 0;have z1:=Z.at 1;have z2:=Z.at 2;have z3:=Z.at 3;have z4:=Z.at 4;have z5:=Z.at 5;have z6:=Z.at 6;have z7:=Z.at 7;have zl:=Z.lt;have B1:Below w.heap.size w w1:=A1.trans (b1.mono A1.size);clear g1 Z)
       | (go_at_call 104;refine (Mx _ B1).mono ?_;rintro e w2 ⟨rfl,b2⟩;have B2:=z0a B1 b2))
      ·(
       try subst h
       have B12:Below wr.heap.size wr w2:=z0a (z0a ((Below.refl _ wr).alloc (Nat.le_refl _) _) b1) b2
       have s2:=B2.size
       have ho2:Hid (Ks w2 w.heap.size (.slice so st.length st.length) (st.take st.length)):=Ks.later (hcut st.length (Nat.le_refl _)) B12
       clear hcut hsn
       go_loopw [7,35] (fun r7 r35 wi=>r7=.int .i64 1∧r35=.int .i64 0∧w2=wi) (fun _ _ _=>0)
       case atStart=>exact ⟨rfl,rfl,rfl⟩
       case round =>
        obtain ⟨rfl,rfl,rfl⟩:=hrel
        have hlk:(st.take st.length).length=st.length:=by rw [List.length_take];omega
        have ho3:w2.ownsRow w.heap.size 3 1 (.slice so st.length st.length) st.length (iv (st.take st.length)):=by have:=ho2.out;unfold Ks at this;rw [hlk] at this;exact this
        have HLK:Hid ((st.take st.length).length=st.length):=hlk
        have hrow:Hid (∀ g,(Value.slice so st.length st.length).ownBlock=some g→w.heap.size≤g):=fun g h=>(World.ownsRow.lt ho3 g h).1
        clear hlk ho2 hcell ho
        go_wp2_with (at_builtin;refine wpList_append_own _ rfl _ _ 23 rfl w.heap.size 3 i0 (.int .i64 0) 1 8 Tryz.underlying23 hi hz0 hz1 hz2 rfl (by decide) _ _ _ rfl (World.ownsRow.alloc ho3 _) ⟨w2.heap.size,0,none⟩ 1 1 [.int .i64 (1:Int)] rfl rfl (cell_one_new _ _ _) (z1x _ _) (by unfold maxLen;omega) (by omega) (by simp;omega) ?_)
        intro v3 w3 ho4 hgrow3 _
        have B3:Below w.heap.size w w3:=(B2.alloc (by omega) _).grown hgrow3 (by simp;omega) hrow.out
        clear hgrow3 ho3
        go_wp2
        refine ⟨⟨k+1,st++[1],by rw [cst1],by omega,by simp;omega,?_,Ks.push ho4,B3,HS2⟩,by simp [intOf];omega⟩
        intro d hd
        rcases List.mem_append.1 hd with hd|hd
        ·exact Nat.le_succ_of_le (hsd d hd)
        ·simp at hd;omega)
      ·(
       have B12:Below wr.heap.size wr w2:=z0a (z0a ((Below.refl _ wr).alloc (Nat.le_refl _) _) b1) b2
       have s2:=B2.size
       have ho2:Hid (Ks w2 w.heap.size (.slice so st.length sc) (st.take st.length)):=Ks.later (hcut st.length (Nat.le_refl _)) B12
       clear hcut hsn
       go_loopw [7,35] (fun r7 r35 wi=>r7=.int .i64 1∧r35=.int .i64 0∧w2=wi) (fun _ _ _=>0)
       case atStart=>exact ⟨rfl,rfl,rfl⟩
       case round =>
        obtain ⟨rfl,rfl,rfl⟩:=hrel
        have hlk:(st.take st.length).length=st.length:=by rw [List.length_take];omega
        have ho3:w2.ownsRow w.heap.size 3 1 (.slice so st.length sc) st.length (iv (st.take st.length)):=by have:=ho2.out;unfold Ks at this;rw [hlk] at this;exact this
        have HLK:Hid ((st.take st.length).length=st.length):=hlk
        have hrow:Hid (∀ g,(Value.slice so st.length sc).ownBlock=some g→w.heap.size≤g):=fun g h=>(World.ownsRow.lt ho3 g h).1
        clear hlk ho2 hcell ho
        go_wp2_with (at_builtin;refine wpList_append_own _ rfl _ _ 23 rfl w.heap.size 3 i0 (.int .i64 0) 1 8 Tryz.underlying23 hi hz0 hz1 hz2 rfl (by decide) _ _ _ rfl (World.ownsRow.alloc ho3 _) ⟨w2.heap.size,0,none⟩ 1 1 [.int .i64 (1:Int)] rfl rfl (cell_one_new _ _ _) (z1x _ _) (by unfold maxLen;omega) (by omega) (by simp;omega) ?_)
        intro v3 w3 ho4 hgrow3 _
        have B3:Below w.heap.size w w3:=(B2.alloc (by omega) _).grown hgrow3 (by simp;omega) hrow.out
        clear hgrow3 ho3
        go_wp2
        refine ⟨⟨k+1,st++[1],by rw [cst1],by omega,by simp;omega,?_,Ks.push ho4,B3,HS2⟩,by simp [intOf];omega⟩
        intro d hd
        rcases List.mem_append.1 hd with hd|hd
        ·exact Nat.le_succ_of_le (hsd d hd)
        ·simp at hd;omega)
     ·have hne:¬ sc=f:=by omega
      have hso:so≠none:=by intro h;have:=(hsn h).1;subst this;simp at hqs;omega
      obtain ⟨ad,rfl⟩:=Option.ne_none_iff_exists'.1 hso
      obtain ⟨g,rfl,hgb,hgl,hcl⟩:=hcell ad rfl
      clear hcell hso hsn
      have hf3:(st.length:Int) - (f:Int)=(q:Int):=by omega
      have hf4:st.length - f=q:=by omega
      have hf5:((st.length - f:Nat):Int)=(q:Int):=by omega
      obtain ⟨xo,xt,xn,xv,xa⟩:=x
      have A1:Below w.heap.size w (wr.alloc (.cells (ncs ⟨xo,xt,xn,xv,xa⟩) 74)):=hb.alloc sB _
      go_wp2_with (first
       | (go_at_call 103;refine (Ox _).mono ?_;rintro e w1 ⟨rfl,g1⟩;have b1:=g1.below;have Z:=(Cbox.new wr (ncs ⟨xo,xt,xn,xv,xa⟩) 74).later b1;have z0:=Z.at 0;have z1:=Z.at 1;have z2:=Z.at 2;have z3:=Z.at 3;have z4:=Z.at 4;have z5:=Z.at 5;have z6:=Z.at 6;have z7:=Z.at 7;have zl:=Z.lt;have B1:Below w.heap.size w w1:=A1.trans (b1.mono A1.size);clear g1 Z)
       | (go_at_call 104;refine (Mx _ B1).mono ?_;rintro e w2 ⟨rfl,b2⟩;have B2:=z0a B1 b2))
      have B12:Below wr.heap.size wr w2:=z0a (z0a ((Below.refl _ wr).alloc (Nat.le_refl _) _) b1) b2
      have s2:=B2.size
      have hg2:g<w2.heap.size:=Nat.lt_of_lt_of_le hgl B12.size
      have ho2:Hid (Ks w2 w.heap.size (.slice (some ⟨g,0,none⟩) f sc) (st.take f)):=Ks.later (hcut f hfl) B12
      have HC:Hid (∀ i (h:i<st.length),w2.cell? ⟨g,i,none⟩=some (.int .i64 (st[i]:Int))):=fun i h=>(B12.cell (p:=⟨g,i,none⟩) hgl).trans (hcl i h)
      clear hcut hcl ho
      go_loopw [7,35] (fun r7 r35 wi=>∃ i:Nat,r35=.int .i64 (i:Int)∧r7=.int .i64 ((maxD ((st.drop f).take i):Nat):Int)∧i≤q∧w2=wi) (fun _ r _=>q - (intOf r).toNat)
      case atStart=>exact ⟨0,rfl,rfl,Nat.zero_le _,rfl⟩
      case round =>
       obtain ⟨i,rfl,rfl,hiq,rfl⟩:=hrel
       by_cases hi2:i<q
       ·have hi':(i:Int)<(q:Int):=by omega
        have i0':(0:Int)≤(i:Int):=by omega
        have hc1:=HC.out (f+i) (by omega)
        have hstep:maxD ((st.drop f).take (i+1))=max (maxD ((st.drop f).take i)) (st[f+i]'(by omega)+1):=by
         rw [List.take_succ_eq_append_getElem (by rw [List.length_drop];omega)]
         unfold maxD
         rw [List.foldl_append,List.getElem_drop]
         rfl
        have hle:=hsd (st[f+i]'(by omega)) (List.getElem_mem _)
        have hle2:=maxD_le ((st.drop f).take i) k (fun d hd=>hsd d (List.mem_of_mem_drop (List.mem_of_mem_take hd)))
        generalize st[f+i]'(by omega)=e at hc1 hstep hle
        have HST:Hid (((maxD ((st.drop f).take (i+1)):Nat):Int)=max ((maxD ((st.drop f).take i):Nat):Int) ((e:Int)+1)):=by
         show _=_
         rw [hstep];omega
        clear hstep
        generalize maxD ((st.drop f).take i)=d at *
        go_wp2
        exact ⟨⟨i+1,by rw [cst1],by rw [HST.out],by omega,by trivial⟩,by simp [intOf];omega⟩
       ·have hi':¬ (i:Int)<(q:Int):=by omega
        have hieq:i=q:=by omega
        have HE:Hid (maxD ((st.drop f).take i)=maxD (st.drop f)):=by
         show _=_
         rw [List.take_of_length_le (by rw [List.length_drop];omega)]
        have hle2:=hmax
        obtain ⟨D,hD⟩:∃ D,D=maxD (st.drop f):=⟨_,rfl⟩
        rw [HE.out]
        rw [← hD] at HS hle2 ⊢
        clear hD HE hmax HC
        have hlk:(st.take f).length=f:=by rw [List.length_take];omega
        have ho3:w2.ownsRow w.heap.size 3 1 (.slice (some ⟨g,0,none⟩) f sc) f (iv (st.take f)):=by have:=ho2.out;unfold Ks at this;rw [hlk] at this;exact this
        have HLK:Hid ((st.take f).length=f):=hlk
        have hrow:Hid (∀ q,(Value.slice (some ⟨g,0,none⟩) f sc).ownBlock=some q→w.heap.size≤q):=fun q h=>(World.ownsRow.lt ho3 q h).1
        clear hlk ho2
        go_wp2_with (at_builtin;refine wpList_append_own _ rfl _ _ 23 rfl w.heap.size 3 i0 (.int .i64 0) 1 8 Tryz.underlying23 hi hz0 hz1 hz2 rfl (by decide) _ _ _ rfl (World.ownsRow.alloc ho3 _) ⟨w2.heap.size,0,none⟩ 1 1 [.int .i64 (D:Int)] rfl rfl (cell_one_new _ _ _) (z1x _ _) (by unfold maxLen;omega) (by omega) (by simp;omega) ?_)
        intro v3 w3 ho4 hgrow3 _
        have B3:Below w.heap.size w w3:=(B2.alloc (by omega) _).grown hgrow3 (by simp;omega) hrow.out
        clear hgrow3 ho3
        go_wp2
        refine ⟨⟨k+1,st.take f++[D],by rw [cst1],by omega,by rw [List.length_append,HLK.out];simp;omega,?_,Ks.push' HLK.out ho4,B3,HS⟩,by simp [intOf];omega⟩
        intro d hd
        rcases List.mem_append.1 hd with hd|hd
        ·exact Nat.le_succ_of_le (hsd d (List.mem_of_mem_take hd))
        ·simp at hd;omega
  ·have hlt':¬ (k:Int)<(n:Int):=by omega
   have hkn:k=n:=by omega
   have HF:Hid (R=some st):=by
    show R=_
    rw [hH.out,List.drop_eq_nil_of_le (by rw [HN.out];omega)];rfl
   clear hH HR
   by_cases h1:st.length=1
   ·obtain ⟨d,rfl⟩:=List.length_eq_one_iff.1 h1
    have hso:so≠none:=by intro h;have:=(hsn h).1;simp at this
    obtain ⟨ad,rfl⟩:=Option.ne_none_iff_exists'.1 hso
    obtain ⟨g,rfl,hgb,hgl,hcl⟩:=hcell ad rfl
    have hc0:=hcl 0 (by simp)
    simp only [List.getElem_cons_zero] at hc0
    have hsc1:(0:Int)<((1:Nat):Int):=by omega
    clear hcut hcell hsn ho hcl hsd
    simp only [List.length_cons,List.length_nil,Nat.zero_add]
    by_cases hd:d≤16
    ·have hd':¬ (16:Int)<(d:Int):=by omega
     have HF2:Hid (depO R=d):=by
      show depO R=d
      rw [HF.out];unfold depO;simp [hd]
     go_wp2
     go_ret
     exact ⟨by rw [HF2.out];rfl,hb⟩
    ·have hd':(16:Int)<(d:Int):=by omega
     have HF2:Hid (depO R=0):=by
      show depO R=0
      rw [HF.out];unfold depO;simp [hd]
     go_wp2
     go_ret
     exact ⟨by rw [HF2.out];rfl,hb⟩
   ·have h1':((st.length:Int)==1)=false:=by rw [beq_eq_false_iff_ne];omega
    have HF2:Hid (depO R=0):=by
     show depO R=0
     rw [HF.out]
     match st,h1 with
     | [],_=>rfl
     | [d],h=>simp at h
     | a::b::c,_=>rfl
    clear hcut hcell hsn ho hsd HF
    generalize st.length=m at *
    go_wp2
    go_ret
    exact ⟨by rw [HF2.out];rfl,hb⟩
end Go.Proofs.YtljkonkfeiojnaaGreatDoor
