/-
  The contract of eval.Eval, whole.
  A row against its table's Check.
  What a column makes of a value.
  The contract of longstoplaw07.Scope.
  longstoplaw04.Own gives a row of one's own.
  EvalNamed's walk, where all is as it must be.
  The row that a table makes of a row, as plain data.
-/
import Derived.Test.YtljkonkfeiojnaaGreatDoorXEval
import Derived.Test.YtljkonkfeiojnaaGreatDoorMUJRgt
import Derived.Test.YtljkonkfeiojnaaGreatDoorMBVKeyB
import Derived.Test.YtljkonkfeiojnaaGreatDoorMQQUn
import Derived.Deep.Cut
import Derived.Test.YtljkonkfeiojnaaGreatDoorDResc
import Derived.Test.YtljkonkfeiojnaaGreatDoorMNQBinC
import Derived.Test.YtljkonkfeiojnaaGreatDoorMKJAfB
import Derived.Deep.CutRange
import Derived.Laws.MakeOwn
set_option maxHeartbeats 4000000
set_option maxRecDepth 20000
namespace Go.Proofs.YtljkonkfeiojnaaGreatDoor
open Go.RowKit Go.Shelf
attribute [local go_sem] z0f z0b z0c z0e z0m z0k z0h z0d z0g
theorem ev_bad1 (lo ta na ro:Option Addr) (lc tc nc rc n p q m:Nat) (w:World)
  (RI:z0s 54 #[.slice lo n lc] w (.bool false)) :
  Calls Tryz.prog 37 #[.slice lo n lc,scv ta na p q tc nc,.slice ro m rc] w fun e w'=>e=.returned (rs (nul,1))∧Below w.heap.size w w':=by
 have h1:=Cbox.new w #[.slice ta p tc,.slice na q nc] 80
 have h2:=Box.new (w.alloc (.cells #[.slice ta p tc,.slice na q nc] 80)) 0 0 0 []
 have B00:Below w.heap.size w ((w.alloc (.cells #[.slice ta p tc,.slice na q nc] 80)).alloc (.cells #[.int .i64 0,.int .i64 0,.int .i64 0,.string ⟨#[]⟩] 44)):=((Below.refl _ w).alloc (Nat.le_refl _) _).alloc (by simp) _
 simp only [World.size_alloc] at h2
 have h1':=h1.later ((Below.refl _ _).alloc (Nat.le_refl _) (.cells #[.int .i64 0,.int .i64 0,.int .i64 0,.string ⟨#[]⟩] 44))
 generalize hw0:((w.alloc (.cells #[.slice ta p tc,.slice na q nc] 80)).alloc (.cells #[.int .i64 0,.int .i64 0,.int .i64 0,.string ⟨#[]⟩] 44))=w0 at h1' h2 B00
 clear h1
 have HX:Hid (Box w0 (w.heap.size+1) nul):=h2
 have HS:Hid (Cbox w0 w.heap.size #[.slice ta p tc,.slice na q nc] 80):=h1'
 clear h1' h2
 go_enter Tryz.func37,Tryz.ntmps37
 go_upto_region 1 with fail
 try rw [hw0]
 clear hw0
 have R1:=RI w0 B00
 go_wp2_with fail
 refine R1.mono ?_
 rintro e wa ⟨rfl,ba⟩
 have Ba:=z0a B00 ba
 have HSa:Hid (Cbox wa w.heap.size #[.slice ta p tc,.slice na q nc] 80):=HS.out.later ba
 have c0:=HSa.out.at 0
 have c1:=HSa.out.at 1
 have cl:=HSa.out.lt
 have bra:=HX.out.later ba
 clear R1 RI
 have br:=bra
 have lt1:=br.lt
 obtain ⟨r0,r1,r2,r3⟩:=br.at4
 dsimp only [nul] at r0 r1 r2 r3
 simp only [Nat.zero_add] at r1 r2 r3
 have f0:=br.free 0
 have f1:=br.free 1
 have f2:=br.free 2
 have f3:=br.free 3
 go_wp2
 refine bodyPost_ret_by (v:=.tuple #[va 0 0 0 ⟨#[]⟩,.int .i64 1]) ?_ rfl ⟨rfl,z1s Ba (by omega) _ _ _ _⟩
 simp [results,Tryz.results37,go_sem,r0,r1,r2,r3]
theorem ev_bad2 (lo ta na ro:Option Addr) (lc tc nc rc n p q m:Nat) (w:World) (h:¬ p=m)
  (RI:z0s 54 #[.slice lo n lc] w (.bool true)) :
  Calls Tryz.prog 37 #[.slice lo n lc,scv ta na p q tc nc,.slice ro m rc] w fun e w'=>e=.returned (rs (nul,1))∧Below w.heap.size w w':=by
 have h1:=Cbox.new w #[.slice ta p tc,.slice na q nc] 80
 have h2:=Box.new (w.alloc (.cells #[.slice ta p tc,.slice na q nc] 80)) 0 0 0 []
 have B00:Below w.heap.size w ((w.alloc (.cells #[.slice ta p tc,.slice na q nc] 80)).alloc (.cells #[.int .i64 0,.int .i64 0,.int .i64 0,.string ⟨#[]⟩] 44)):=((Below.refl _ w).alloc (Nat.le_refl _) _).alloc (by simp) _
 simp only [World.size_alloc] at h2
 have h1':=h1.later ((Below.refl _ _).alloc (Nat.le_refl _) (.cells #[.int .i64 0,.int .i64 0,.int .i64 0,.string ⟨#[]⟩] 44))
 generalize hw0:((w.alloc (.cells #[.slice ta p tc,.slice na q nc] 80)).alloc (.cells #[.int .i64 0,.int .i64 0,.int .i64 0,.string ⟨#[]⟩] 44))=w0 at h1' h2 B00
 clear h1
 have HX:Hid (Box w0 (w.heap.size+1) nul):=h2
 have HS:Hid (Cbox w0 w.heap.size #[.slice ta p tc,.slice na q nc] 80):=h1'
 clear h1' h2
 have h':¬ (p:Int)=(m:Int):=by omega
 clear h
 go_enter Tryz.func37,Tryz.ntmps37
 go_upto_region 1 with fail
 try rw [hw0]
 clear hw0
 have R1:=RI w0 B00
 go_wp2_with fail
 refine R1.mono ?_
 rintro e wa ⟨rfl,ba⟩
 have Ba:=z0a B00 ba
 have HSa:Hid (Cbox wa w.heap.size #[.slice ta p tc,.slice na q nc] 80):=HS.out.later ba
 have c0:=HSa.out.at 0
 have c1:=HSa.out.at 1
 have cl:=HSa.out.lt
 have bra:=HX.out.later ba
 clear R1 RI
 have br:=bra
 have lt1:=br.lt
 obtain ⟨r0,r1,r2,r3⟩:=br.at4
 dsimp only [nul] at r0 r1 r2 r3
 simp only [Nat.zero_add] at r1 r2 r3
 have f0:=br.free 0
 have f1:=br.free 1
 have f2:=br.free 2
 have f3:=br.free 3
 go_wp2
 refine bodyPost_ret_by (v:=.tuple #[va 0 0 0 ⟨#[]⟩,.int .i64 1]) ?_ rfl ⟨rfl,z1s Ba (by omega) _ _ _ _⟩
 simp [results,Tryz.results37,go_sem,r0,r1,r2,r3]
theorem ev_bad3 (lo ta na ro:Option Addr) (lc tc nc rc n q m:Nat) (w:World) (h:¬ q=m)
  (RI:z0s 54 #[.slice lo n lc] w (.bool true)) :
  Calls Tryz.prog 37 #[.slice lo n lc,scv ta na m q tc nc,.slice ro m rc] w fun e w'=>e=.returned (rs (nul,1))∧Below w.heap.size w w':=by
 have h1:=Cbox.new w #[.slice ta m tc,.slice na q nc] 80
 have h2:=Box.new (w.alloc (.cells #[.slice ta m tc,.slice na q nc] 80)) 0 0 0 []
 have B00:Below w.heap.size w ((w.alloc (.cells #[.slice ta m tc,.slice na q nc] 80)).alloc (.cells #[.int .i64 0,.int .i64 0,.int .i64 0,.string ⟨#[]⟩] 44)):=((Below.refl _ w).alloc (Nat.le_refl _) _).alloc (by simp) _
 simp only [World.size_alloc] at h2
 have h1':=h1.later ((Below.refl _ _).alloc (Nat.le_refl _) (.cells #[.int .i64 0,.int .i64 0,.int .i64 0,.string ⟨#[]⟩] 44))
 generalize hw0:((w.alloc (.cells #[.slice ta m tc,.slice na q nc] 80)).alloc (.cells #[.int .i64 0,.int .i64 0,.int .i64 0,.string ⟨#[]⟩] 44))=w0 at h1' h2 B00
 clear h1
 have HX:Hid (Box w0 (w.heap.size+1) nul):=h2
 have HS:Hid (Cbox w0 w.heap.size #[.slice ta m tc,.slice na q nc] 80):=h1'
 clear h1' h2
 have h':¬ (q:Int)=(m:Int):=by omega
 clear h
 go_enter Tryz.func37,Tryz.ntmps37
 go_upto_region 1 with fail
 try rw [hw0]
 clear hw0
 have R1:=RI w0 B00
 go_wp2_with fail
 refine R1.mono ?_
 rintro e wa ⟨rfl,ba⟩
 have Ba:=z0a B00 ba
 have HSa:Hid (Cbox wa w.heap.size #[.slice ta m tc,.slice na q nc] 80):=HS.out.later ba
 have c0:=HSa.out.at 0
 have c1:=HSa.out.at 1
 have cl:=HSa.out.lt
 have bra:=HX.out.later ba
 clear R1 RI
 have br:=bra
 have lt1:=br.lt
 obtain ⟨r0,r1,r2,r3⟩:=br.at4
 dsimp only [nul] at r0 r1 r2 r3
 simp only [Nat.zero_add] at r1 r2 r3
 have f0:=br.free 0
 have f1:=br.free 1
 have f2:=br.free 2
 have f3:=br.free 3
 go_wp2
 refine bodyPost_ret_by (v:=.tuple #[va 0 0 0 ⟨#[]⟩,.int .i64 1]) ?_ rfl ⟨rfl,z1s Ba (by omega) _ _ _ _⟩
 simp [results,Tryz.results37,go_sem,r0,r1,r2,r3]
theorem ev_bad4 (lo ta na ro:Option Addr) (lc tc nc rc n m:Nat) (w:World) (AR:z0s 59 #[.slice ro m rc] w (.bool false))
  (RI:z0s 54 #[.slice lo n lc] w (.bool true)) :
  Calls Tryz.prog 37 #[.slice lo n lc,scv ta na m m tc nc,.slice ro m rc] w fun e w'=>e=.returned (rs (nul,1))∧Below w.heap.size w w':=by
 have h1:=Cbox.new w #[.slice ta m tc,.slice na m nc] 80
 have h2:=Box.new (w.alloc (.cells #[.slice ta m tc,.slice na m nc] 80)) 0 0 0 []
 have B00:Below w.heap.size w ((w.alloc (.cells #[.slice ta m tc,.slice na m nc] 80)).alloc (.cells #[.int .i64 0,.int .i64 0,.int .i64 0,.string ⟨#[]⟩] 44)):=((Below.refl _ w).alloc (Nat.le_refl _) _).alloc (by simp) _
 simp only [World.size_alloc] at h2
 have h1':=h1.later ((Below.refl _ _).alloc (Nat.le_refl _) (.cells #[.int .i64 0,.int .i64 0,.int .i64 0,.string ⟨#[]⟩] 44))
 generalize hw0:((w.alloc (.cells #[.slice ta m tc,.slice na m nc] 80)).alloc (.cells #[.int .i64 0,.int .i64 0,.int .i64 0,.string ⟨#[]⟩] 44))=w0 at h1' h2 B00
 clear h1
 have HX:Hid (Box w0 (w.heap.size+1) nul):=h2
 have HS:Hid (Cbox w0 w.heap.size #[.slice ta m tc,.slice na m nc] 80):=h1'
 clear h1' h2
 go_enter Tryz.func37,Tryz.ntmps37
 go_upto_region 1 with fail
 try rw [hw0]
 clear hw0
 have R1:=RI w0 B00
 go_wp2_with fail
 refine R1.mono ?_
 rintro e wa ⟨rfl,ba⟩
 have Ba:=z0a B00 ba
 have HSa:Hid (Cbox wa w.heap.size #[.slice ta m tc,.slice na m nc] 80):=HS.out.later ba
 have c0:=HSa.out.at 0
 have c1:=HSa.out.at 1
 have cl:=HSa.out.lt
 have bra:=HX.out.later ba
 clear R1 RI
 have A2:=AR wa Ba
 go_wp2_with fail
 refine A2.mono ?_
 rintro e wb ⟨rfl,bb⟩
 have Bb:=z0a Ba bb
 have brb:=bra.later bb
 clear c0 c1 cl A2 AR
 have br:=brb
 have lt1:=br.lt
 obtain ⟨r0,r1,r2,r3⟩:=br.at4
 dsimp only [nul] at r0 r1 r2 r3
 simp only [Nat.zero_add] at r1 r2 r3
 have f0:=br.free 0
 have f1:=br.free 1
 have f2:=br.free 2
 have f3:=br.free 3
 go_wp2
 refine bodyPost_ret_by (v:=.tuple #[va 0 0 0 ⟨#[]⟩,.int .i64 1]) ?_ rfl ⟨rfl,z1s Bb (by omega) _ _ _ _⟩
 simp [results,Tryz.results37,go_sem,r0,r1,r2,r3]
theorem eval_any (lo ta na ro:Option Addr) (lc tc nc rc:Nat) (l:List Nd) (ts ns:List (List UInt8)) (row:List Va) (w:World) (hv:Nw w lo l) (hln:l.length≤140737488351232) (hs:shN l) (hT:Tabs w) (hPw:Pw w) (ht:Sl w ta ts) (hn:Sl w na ns) (hr:Vs w ro row)
  (hl:row.length≤140737488351232) (hi6:∀ x∈l,vin x.v) (hir:∀ v∈row,vin v) :
  Calls Tryz.prog 37 #[.slice lo l.length lc,scv ta na ts.length ns.length tc nc,.slice ro row.length rc] w fun e w'=>e=.returned (rs (evR l ts ns row))∧Below w.heap.size w w':=by
 have RI:∀ W,Below w.heap.size w W→Calls Tryz.prog 54 #[.slice lo l.length lc] W fun e w'=>e=.returned (.bool (decide (0<depN mayN l)))∧Below W.heap.size W w':=fun W h=>z7w lo lc l W (hv.later h) hln hs (hT.later h)
 unfold evR
 by_cases hd:0<depN mayN l
 case neg =>
  rw [if_neg (fun h=>hd h.1)]
  rw [decide_eq_false hd] at RI
  exact ev_bad1 lo ta na ro lc tc nc rc l.length ts.length ns.length row.length w RI
 by_cases het:ts.length=row.length
 case neg =>
  rw [if_neg (fun h=>het h.2.1)]
  rw [decide_eq_true hd] at RI
  exact ev_bad2 lo ta na ro lc tc nc rc l.length ts.length ns.length row.length w het RI
 by_cases hen:ns.length=row.length
 case neg =>
  rw [if_neg (fun h=>hen h.2.2.1),het]
  rw [decide_eq_true hd] at RI
  exact ev_bad3 lo ta na ro lc tc nc rc l.length ns.length row.length w hen RI
 by_cases har:row.all vr=true
 case neg =>
  rw [if_neg (fun h=>har h.2.2.2),het,hen]
  rw [decide_eq_true hd] at RI
  have AR:z0s 59 #[.slice ro row.length rc] w (.bool false):=fun W h=>by
   have:=qall_any ro rc row W (hT.later h) (hr.later h) (by omega)
   rw [show row.all vr=false by simpa using har] at this
   exact this
  exact ev_bad4 lo ta na ro lc tc nc rc l.length row.length w AR RI
 rw [if_pos ⟨hd,het,hen,har⟩]
 exact eval_good lo ta na ro lc tc nc rc l ts ns row w hv hs hT hPw ht hn hr hd het hen har hl hi6 hir
def chO0:Oper:=⟨some 14,.fieldAddr 33 (.tmp 2) 4,0, "row.go:77",#[],none⟩
def chO1:Oper:=⟨some 15,.load 31 (.tmp 14),31, "row.go:77",#[⟨0,.data⟩],none⟩
def chO2:Oper:=⟨some 16,.load 33 (.tmp 2),33, "row.go:77",#[],none⟩
def chO3:Oper:=⟨some 17,.fieldAddr 33 (.tmp 2) 0,0, "row.go:77",#[],none⟩
def chO4:Oper:=⟨some 18,.load 9 (.tmp 17),9, "row.go:77",#[⟨3,.data⟩],none⟩
def chO5:Oper:=⟨some 19,.call { callee:=Callee.value (Operand.func 38),args:=#[.tmp 16,.tmp 18],argTypes:=#[33,9] },80, "row.go:77",#[⟨2,.data⟩,⟨4,.data⟩],none⟩
def chO6:Oper:=⟨some 20,.move (.tmp 1),28, "row.go:77",#[],none⟩
def chO7:Oper:=⟨some 21,.call { callee:=Callee.value (Operand.func 37),args:=#[.tmp 15,.tmp 19,.tmp 20],argTypes:=#[31,80,28] },55, "row.go:77",#[⟨1,.data⟩,⟨5,.data⟩,⟨6,.data⟩,⟨5,.chain⟩],none⟩
def chO8:Oper:=⟨some 13,.move (.tmp 21),55, "row.go:77",#[⟨7,.data⟩],none⟩
def chO9:Oper:=⟨some 22,.extract (.tmp 13) 0,44, "row.go:77",#[⟨8,.data⟩],none⟩
def chO10:Oper:=⟨some 23,.extract (.tmp 13) 1,35, "row.go:77",#[⟨8,.data⟩,⟨12,.gcOnly .lateStores⟩],none⟩
def chO11:Oper:=⟨some 5,.alloc 44,0, "row.go:77",#[],none⟩
def chO12:Oper:=⟨none,.store 44 (.tmp 5) (.tmp 22),0, "row.go:77",#[⟨11,.data⟩,⟨9,.data⟩,⟨7,.chain⟩,⟨0,.phase⟩,⟨1,.phase⟩,⟨2,.phase⟩,⟨3,.phase⟩,⟨4,.phase⟩,⟨5,.phase⟩,⟨6,.phase⟩,⟨7,.phase⟩,⟨8,.phase⟩,⟨9,.phase⟩,⟨10,.textOnly .lateStores⟩,⟨11,.phase⟩],none⟩
def chO13:Oper:=⟨some 6,.assign (.tmp 23),35, "row.go:77",#[⟨10,.data⟩,⟨12,.chain⟩,⟨0,.phase⟩,⟨1,.phase⟩,⟨2,.phase⟩,⟨3,.phase⟩,⟨4,.phase⟩,⟨5,.phase⟩,⟨6,.phase⟩,⟨7,.phase⟩,⟨8,.phase⟩,⟨9,.phase⟩,⟨10,.phase⟩,⟨11,.phase⟩,⟨12,.phase⟩],none⟩
def outE (r:Va × Int):Int:=if r.2=0 then (if truB r.1.k r.1.n r.1.m ⟨r.1.b.toArray⟩=true then (if truN r.1.k r.1.n r.1.m ⟨r.1.b.toArray⟩=0 then 37 else 0) else 31) else r.2
def chdR (t:Tb) (row:List Va):Int:=if t.ck.length=0 then 0 else outE (evR t.ck (List.replicate t.cs.length t.n) (t.cs.map Co.n) row)
theorem checked8_any (t:Tb) (q:Tp) (ro:Option Addr) (rc:Nat) (row:List Va) (w:World) (hW:TbW w t q) (hT:Tabs w) (hPw:Pw w) (h16:t.cs.length≤16) (hr:Vs w ro row) (hrl:row.length≤140737488351232) (hi6:∀ x∈t.ck,vin x.v) (hir:∀ v∈row,vin v) :
  Calls Tryz.prog 18 #[.agg (tbcs t q),.slice ro row.length rc] w fun e w'=>e=.returned (.int .i64 (chdR t row))∧Below w.heap.size w w':=by
 have SC:∀ W,Below w.heap.size w W→_:=fun W h=>scoped_any ⟨t.n.toArray⟩ q.co q.ko q.uo q.xo q.cc t.key.length q.kc t.us.length q.uc t.ck.length q.xc t.cs t.n W (hW.c.later h) h16
 have EV:∀ W ta na tc nc,Below w.heap.size w W→Sl W ta (List.replicate t.cs.length t.n)→Sl W na (t.cs.map Co.n)→Calls Tryz.prog 37 #[.slice q.xo t.ck.length q.xc,scv ta na t.cs.length t.cs.length tc nc,.slice ro row.length rc] W fun e w'=>e=.returned (rs (evR t.ck (List.replicate t.cs.length t.n) (t.cs.map Co.n) row))∧Below W.heap.size W w':=fun W ta na tc nc h h1 h2=>by
  have:=eval_any q.xo ta na ro q.xc tc nc rc t.ck (List.replicate t.cs.length t.n) (t.cs.map Co.n) row W (hW.x.later h) hW.xl hW.sh (hT.later h) (fun k hk=>by rw [h.cell (p:=⟨2,k,none⟩) hPw.pos];exact hPw k hk) h1 h2 (hr.later h) hrl hi6 hir
  rwa [List.length_replicate,List.length_map] at this
 unfold chdR tbcs
 generalize evR t.ck (List.replicate t.cs.length t.n) (t.cs.map Co.n) row=r at *
 obtain ⟨⟨rk,rn,rm,rb⟩,re⟩:=r
 have TR:=fun W=>z8b rk rn rm ⟨rb.toArray⟩ W
 unfold outE
 generalize List.replicate t.cs.length t.n=ts at *
 generalize t.cs.map Co.n=ns at *
 clear hW hT hPw hr hrl hi6 hir h16
 obtain ⟨n,cs,key,us,ck⟩:=t
 obtain ⟨co,ko,uo,xo,cc,kc,uc,xc⟩:=q
 unfold rs vv at EV
 simp only at *
 generalize ByteArray.mk n.toArray=NB at *
 generalize ByteArray.mk rb.toArray=RB at *
 generalize cs.length=m at *
 generalize key.length=kn at *
 generalize us.length=un at *
 generalize ck.length=xn at *
 generalize row.length=rl at *
 have B1:Below w.heap.size w (w.alloc (.cells #[.string NB,.slice co m cc,.slice ko kn kc,.slice uo un uc,.slice xo xn xc] 33)):=(Below.refl _ _).alloc (Nat.le_refl _) _
 have A1:Cbox (w.alloc (.cells #[.string NB,.slice co m cc,.slice ko kn kc,.slice uo un uc,.slice xo xn xc] 33)) w.heap.size #[.string NB,.slice co m cc,.slice ko kn kc,.slice uo un uc,.slice xo xn xc] 33:=Cbox.new w _ _
 by_cases h0:xn=0
 ·subst h0
  rw [if_pos rfl]
  go_enter Tryz.func18,Tryz.ntmps18
  go_wp2
  go_ret
  exact ⟨rfl,B1⟩
 have h0':((xn:Int)==0)=false:=by simp;omega
 rw [if_neg h0]
 obtain ⟨tn,htn⟩:∃ tn,tn=truN rk rn rm RB:=⟨_,rfl⟩
 obtain ⟨tb,htb⟩:∃ tb,tb=truB rk rn rm RB:=⟨_,rfl⟩
 rw [← htn,← htb] at TR ⊢
 clear htn htb h0
 obtain ⟨X,hX⟩:∃ X,X=(if re=0 then (if tb=true then (if tn=0 then (37:Int) else 0) else 31) else re):=⟨_,rfl⟩
 rw [← hX]
 have HX:Hid (X=(if re=0 then (if tb=true then (if tn=0 then (37:Int) else 0) else 31) else re)):=hX
 clear hX
 go_enter Tryz.func18,Tryz.ntmps18
 go_upto_region 3 with fail
 generalize w.alloc (.cells #[.string NB,.slice co m cc,.slice ko kn kc,.slice uo un uc,.slice xo xn xc] 33)=w1 at *
 go_cut [5,6] from 9 (fun s5 s6 wx=>∃ p:Nat,s5=.pointer (some ⟨p,0,none⟩)∧s6=.int .i64 re∧Hid (Below w.heap.size w wx∧Cbox wx p #[.int .i64 rk,.int .i64 rn,.int .i64 rm,.string RB] 44∧Cbox wx w.heap.size #[.string NB,.slice co m cc,.slice ko kn kc,.slice uo un uc,.slice xo xn xc] 33))
 case first =>
  as_aux_lemma =>
   refine wp_region_held_drew (S:=(fun W=>Cbox W w.heap.size #[.string NB,.slice co m cc,.slice ko kn kc,.slice uo un uc,.slice xo xn xc] 33)) gK ?_ (fun hHeld=>?_)
   ·((try dsimp only);exact A1.later ((Below.refl _ w1).drew))
   refine wpAnyH_take (i:=0) (oi:=chO0) (v:=?_) rfl gK gK gK (fun _ _ _ h=>h) (Or.inl ⟨by rfl,?_⟩) (by assumption) ?_
   rotate_left
   ·(intro W hSw;(try dsimp only at hSw);try simp only [chO0];first|(go_simp;done)|(go_simp;with_reducible rfl))
   try simp only [chO0,Act.put,List.setIfInBounds_toArray,List.set_cons_zero,List.set_cons_succ]
   refine wpAnyH_take (i:=1) (oi:=chO1) (v:=?_) rfl gK gK gK (fun _ _ _ h=>h) (Or.inl ⟨by rfl,?_⟩) (by assumption) ?_
   rotate_left
   ·(intro W hSw;(try dsimp only at hSw);have e0:=hSw.at 0;have e1:=hSw.at 1;have e2:=hSw.at 2;have e3:=hSw.at 3;have e4:=hSw.at 4;try simp only [chO1];first|(go_simp;done)|(go_simp;with_reducible rfl))
   try simp only [chO1,Act.put,List.setIfInBounds_toArray,List.set_cons_zero,List.set_cons_succ]
   refine wpAnyH_take (i:=2) (oi:=chO2) (v:=?_) rfl gK gK gK (fun _ _ _ h=>h) (Or.inl ⟨by rfl,?_⟩) (by assumption) ?_
   rotate_left
   ·(intro W hSw;(try dsimp only at hSw);have e0:=hSw.at 0;have e1:=hSw.at 1;have e2:=hSw.at 2;have e3:=hSw.at 3;have e4:=hSw.at 4;try simp only [chO2];first|(go_simp;done)|(go_simp;with_reducible rfl))
   try simp only [chO2,Act.put,List.setIfInBounds_toArray,List.set_cons_zero,List.set_cons_succ]
   refine wpAnyH_take (i:=3) (oi:=chO3) (v:=?_) rfl gK gK gK (fun _ _ _ h=>h) (Or.inl ⟨by rfl,?_⟩) (by assumption) ?_
   rotate_left
   ·(intro W hSw;(try dsimp only at hSw);try simp only [chO3];first|(go_simp;done)|(go_simp;with_reducible rfl))
   try simp only [chO3,Act.put,List.setIfInBounds_toArray,List.set_cons_zero,List.set_cons_succ]
   refine wpAnyH_take (i:=4) (oi:=chO4) (v:=?_) rfl gK gK gK (fun _ _ _ h=>h) (Or.inl ⟨by rfl,?_⟩) (by assumption) ?_
   rotate_left
   ·(intro W hSw;(try dsimp only at hSw);have e0:=hSw.at 0;have e1:=hSw.at 1;have e2:=hSw.at 2;have e3:=hSw.at 3;have e4:=hSw.at 4;try simp only [chO4];first|(go_simp;done)|(go_simp;with_reducible rfl))
   try simp only [chO4,Act.put,List.setIfInBounds_toArray,List.set_cons_zero,List.set_cons_succ]
   refine wpAnyH_take (i:=6) (oi:=chO6) (v:=?_) rfl gK gK gK (fun _ _ _ h=>h) (Or.inl ⟨by rfl,?_⟩) (by assumption) ?_
   rotate_left
   ·(intro W hSw;(try dsimp only at hSw);try simp only [chO6];first|(go_simp;done)|(go_simp;with_reducible rfl))
   try simp only [chO6,Act.put,List.setIfInBounds_toArray,List.set_cons_zero,List.set_cons_succ]
   refine wpAnyH_ready (rs:=[5,11]) gK (by simp) ?_
   refine AllReadyH.cons (o:=chO5) rfl (fun K hK=>?_) (AllReadyH.cons (o:=chO11) rfl (fun K hK=>?_) AllReadyH.nil)
   ·
    try simp only [chO5]
    go_simp
    (refine (SC _ (z0a B1 ((Below.refl _ w1).drew))).mono ?_)
    rintro e w5 ⟨⟨ta,na,tc,nc,rfl,st5,sn5⟩,b5⟩
    have d5:Below w1.heap.size w1 w5:=z0a ((Below.refl _ w1).drew) b5
    refine hK.out _ _ ?_ (fun hHeld=>?_)
    ·((try dsimp only);exact A1.later d5)
    clear hK K
    try simp only [Act.put,sA,sB,sC]
    refine wpAnyH_ready (rs:=[7,11]) gK (by simp) ?_
    refine AllReadyH.cons (o:=chO7) rfl (fun K hK=>?_) (AllReadyH.cons (o:=chO11) rfl (fun K hK=>?_) AllReadyH.nil)
    ·
     try simp only [chO7]
     go_simp
     (refine (EV _ _ _ _ _ (z0a B1 d5) st5 sn5).mono ?_)
     rintro e w7 ⟨rfl,b7⟩
     have d7:Below w1.heap.size w1 w7:=z0a d5 b7
     refine hK.out _ _ ?_ (fun hHeld=>?_)
     ·((try dsimp only);exact A1.later d7)
     clear hK K
     try simp only [Act.put,sA,sB,sC]
     refine wpAnyH_take (i:=8) (oi:=chO8) (v:=?_) rfl gK gK gK (fun _ _ _ h=>h) (Or.inl ⟨by rfl,?_⟩) (by assumption) ?_
     rotate_left
     ·(intro W hSw;(try dsimp only at hSw);try simp only [chO8];first|(go_simp;done)|(go_simp;with_reducible rfl))
     try simp only [chO8,Act.put,List.setIfInBounds_toArray,List.set_cons_zero,List.set_cons_succ]
     refine wpAnyH_take (i:=9) (oi:=chO9) (v:=?_) rfl gK gK gK (fun _ _ _ h=>h) (Or.inl ⟨by rfl,?_⟩) (by assumption) ?_
     rotate_left
     ·(intro W hSw;(try dsimp only at hSw);try simp only [chO9];first|(go_simp;done)|(go_simp;with_reducible rfl))
     try simp only [chO9,Act.put,List.setIfInBounds_toArray,List.set_cons_zero,List.set_cons_succ]
     refine wpAnyH_take (i:=10) (oi:=chO10) (v:=?_) rfl gK gK gK (fun _ _ _ h=>h) (Or.inl ⟨by rfl,?_⟩) (by assumption) ?_
     rotate_left
     ·(intro W hSw;(try dsimp only at hSw);try simp only [chO10];first|(go_simp;done)|(go_simp;with_reducible rfl))
     try simp only [chO10,Act.put,List.setIfInBounds_toArray,List.set_cons_zero,List.set_cons_succ]
     refine wpAnyH_ready (rs:=[11]) gK (by simp) ?_
     refine AllReadyH.cons (o:=chO11) rfl (fun K hK=>?_) AllReadyH.nil
     try simp only [chO11]
     go_simp
     refine hK.out _ _ ?_ (fun hHeld=>?_)
     ·((try dsimp only);exact A1.later ((d7).alloc (d7).size (.cells #[.int .i64 0,.int .i64 0,.int .i64 0,.string ⟨#[]⟩] 44)))
     clear hK K
     try simp only [Act.put,sA,sB,sC]
     have q11:Cbox (w7.alloc (.cells #[.int .i64 0,.int .i64 0,.int .i64 0,.string ⟨#[]⟩] 44)) w7.heap.size #[.int .i64 0,.int .i64 0,.int .i64 0,.string ⟨#[]⟩] 44:=Cbox.new w7 _ _
     have d11:=(d7).alloc (d7).size (.cells #[.int .i64 0,.int .i64 0,.int .i64 0,.string ⟨#[]⟩] 44)
     have u11:=(Below.refl w7.heap.size w7).alloc (Nat.le_refl _) (.cells #[.int .i64 0,.int .i64 0,.int .i64 0,.string ⟨#[]⟩] 44)
     have hp:w1.heap.size≤w7.heap.size:=(d7).size
     generalize w7.alloc (.cells #[.int .i64 0,.int .i64 0,.int .i64 0,.string ⟨#[]⟩] 44)=w11 at *
     generalize w7.heap.size=p at q11 hp ⊢
     refine wpAnyH_ready (rs:=[12]) gK (by simp) ?_
     refine AllReadyH.cons (o:=chO12) rfl (fun K hK=>?_) AllReadyH.nil
     have y0:=q11.at 0
     have y1:=q11.at 1
     have y2:=q11.at 2
     have y3:=q11.at 3
     have f0:=q11.free 0
     have f1:=q11.free 1
     have f2:=q11.free 2
     have f3:=q11.free 3
     have ql:=q11.lt
     simp at y0 y1 y2 y3
     have Q1:=z0q q11 0 (.int .i64 rk)
     have Q2:=z0q Q1 1 (.int .i64 rn)
     have Q3:=z0q Q2 2 (.int .i64 rm)
     have Q4:=z0q Q3 3 (.string RB)
     have hne:w.heap.size≠p:=by have:=A1.lt;omega
     have T0:=(A1.later d11).grown (z0r w11 ⟨p,0,none⟩ (.int .i64 rk)) (by simpa using hne)
     have E0:=z1g (z0a B1 d11) ⟨p,0,none⟩ (.int .i64 rk) (by have:=B1.size;show w.heap.size≤p;omega)
     have T1:=T0.grown (z0r (w11.setCell ⟨p,0,none⟩ (.int .i64 rk)) ⟨p,1,none⟩ (.int .i64 rn)) (by simpa using hne)
     have E1:=z1g E0 ⟨p,1,none⟩ (.int .i64 rn) (by have:=B1.size;show w.heap.size≤p;omega)
     have T2:=T1.grown (z0r ((w11.setCell ⟨p,0,none⟩ (.int .i64 rk)).setCell ⟨p,1,none⟩ (.int .i64 rn)) ⟨p,2,none⟩ (.int .i64 rm)) (by simpa using hne)
     have E2:=z1g E1 ⟨p,2,none⟩ (.int .i64 rm) (by have:=B1.size;show w.heap.size≤p;omega)
     have T3:=T2.grown (z0r (((w11.setCell ⟨p,0,none⟩ (.int .i64 rk)).setCell ⟨p,1,none⟩ (.int .i64 rn)).setCell ⟨p,2,none⟩ (.int .i64 rm)) ⟨p,3,none⟩ (.string RB)) (by simpa using hne)
     have E3:=z1g E2 ⟨p,3,none⟩ (.string RB) (by have:=B1.size;show w.heap.size≤p;omega)
     have TB:=T3
     clear T0 T1 T2 E0 E1 E2 Q1 Q2 Q3
     try simp only [chO12]
     go_simp
     refine hK.out _ _ ?_ (fun hHeld=>?_)
     ·((try dsimp only);exact TB)
     clear hK K
     try simp only [chO12,Act.put,List.setIfInBounds_toArray,List.set_cons_zero,List.set_cons_succ]
     refine wpAnyH_take (i:=13) (oi:=chO13) (v:=?_) rfl gK gK gK (fun _ _ _ h=>h) (Or.inl ⟨by rfl,?_⟩) (by assumption) ?_
     rotate_left
     ·(intro W hSw;(try dsimp only at hSw);try simp only [chO13];first|(go_simp;done)|(go_simp;with_reducible rfl))
     try simp only [chO13,Act.put,List.setIfInBounds_toArray,List.set_cons_zero,List.set_cons_succ]
     refine wpAnyH_done gK ?_ _
     clear y0 y1 y2 y3 f0 f1 f2 f3 ql q11 hHeld
     simp only [List.setIfInBounds_toArray,List.set_cons_zero,List.set_cons_succ] at Q4
     generalize (((w11.setCell ⟨p,0,none⟩ (.int .i64 rk)).setCell ⟨p,1,none⟩ (.int .i64 rn)).setCell ⟨p,2,none⟩ (.int .i64 rm)).setCell ⟨p,3,none⟩ (.string RB)=w12 at *
     go_wp2_with fail
     go_meet
     exact ⟨p,rfl,rfl,⟨E3,Q4,TB⟩⟩
    ·
     try simp only [chO11]
     go_simp
     refine hK.out _ _ ?_ (fun hHeld=>?_)
     ·((try dsimp only);exact A1.later ((d5).alloc (d5).size (.cells #[.int .i64 0,.int .i64 0,.int .i64 0,.string ⟨#[]⟩] 44)))
     clear hK K
     try simp only [Act.put,sA,sB,sC]
     have q11:Cbox (w5.alloc (.cells #[.int .i64 0,.int .i64 0,.int .i64 0,.string ⟨#[]⟩] 44)) w5.heap.size #[.int .i64 0,.int .i64 0,.int .i64 0,.string ⟨#[]⟩] 44:=Cbox.new w5 _ _
     have d11:=(d5).alloc (d5).size (.cells #[.int .i64 0,.int .i64 0,.int .i64 0,.string ⟨#[]⟩] 44)
     have u11:=(Below.refl w5.heap.size w5).alloc (Nat.le_refl _) (.cells #[.int .i64 0,.int .i64 0,.int .i64 0,.string ⟨#[]⟩] 44)
     have hp:w1.heap.size≤w5.heap.size:=(d5).size
     generalize w5.alloc (.cells #[.int .i64 0,.int .i64 0,.int .i64 0,.string ⟨#[]⟩] 44)=w11 at *
     have st11:=st5.later u11
     have sn11:=sn5.later u11
     generalize w5.heap.size=p at q11 hp ⊢
     refine wpAnyH_ready (rs:=[7]) gK (by simp) ?_
     refine AllReadyH.cons (o:=chO7) rfl (fun K hK=>?_) AllReadyH.nil
     try simp only [chO7]
     go_simp
     (refine (EV _ _ _ _ _ (z0a B1 d11) st11 sn11).mono ?_)
     rintro e w7 ⟨rfl,b7⟩
     have d7:Below w1.heap.size w1 w7:=z0a d11 b7
     have q11:=q11.later b7
     refine hK.out _ _ ?_ (fun hHeld=>?_)
     ·((try dsimp only);exact A1.later d7)
     clear hK K
     try simp only [Act.put,sA,sB,sC]
     refine wpAnyH_take (i:=8) (oi:=chO8) (v:=?_) rfl gK gK gK (fun _ _ _ h=>h) (Or.inl ⟨by rfl,?_⟩) (by assumption) ?_
     rotate_left
     ·(intro W hSw;(try dsimp only at hSw);try simp only [chO8];first|(go_simp;done)|(go_simp;with_reducible rfl))
     try simp only [chO8,Act.put,List.setIfInBounds_toArray,List.set_cons_zero,List.set_cons_succ]
     refine wpAnyH_take (i:=9) (oi:=chO9) (v:=?_) rfl gK gK gK (fun _ _ _ h=>h) (Or.inl ⟨by rfl,?_⟩) (by assumption) ?_
     rotate_left
     ·(intro W hSw;(try dsimp only at hSw);try simp only [chO9];first|(go_simp;done)|(go_simp;with_reducible rfl))
     try simp only [chO9,Act.put,List.setIfInBounds_toArray,List.set_cons_zero,List.set_cons_succ]
     refine wpAnyH_take (i:=10) (oi:=chO10) (v:=?_) rfl gK gK gK (fun _ _ _ h=>h) (Or.inl ⟨by rfl,?_⟩) (by assumption) ?_
     rotate_left
     ·(intro W hSw;(try dsimp only at hSw);try simp only [chO10];first|(go_simp;done)|(go_simp;with_reducible rfl))
     try simp only [chO10,Act.put,List.setIfInBounds_toArray,List.set_cons_zero,List.set_cons_succ]
     refine wpAnyH_ready (rs:=[12]) gK (by simp) ?_
     refine AllReadyH.cons (o:=chO12) rfl (fun K hK=>?_) AllReadyH.nil
     have y0:=q11.at 0
     have y1:=q11.at 1
     have y2:=q11.at 2
     have y3:=q11.at 3
     have f0:=q11.free 0
     have f1:=q11.free 1
     have f2:=q11.free 2
     have f3:=q11.free 3
     have ql:=q11.lt
     simp at y0 y1 y2 y3
     have Q1:=z0q q11 0 (.int .i64 rk)
     have Q2:=z0q Q1 1 (.int .i64 rn)
     have Q3:=z0q Q2 2 (.int .i64 rm)
     have Q4:=z0q Q3 3 (.string RB)
     have hne:w.heap.size≠p:=by have:=A1.lt;omega
     have T0:=(A1.later d7).grown (z0r w7 ⟨p,0,none⟩ (.int .i64 rk)) (by simpa using hne)
     have E0:=z1g (z0a B1 d7) ⟨p,0,none⟩ (.int .i64 rk) (by have:=B1.size;show w.heap.size≤p;omega)
     have T1:=T0.grown (z0r (w7.setCell ⟨p,0,none⟩ (.int .i64 rk)) ⟨p,1,none⟩ (.int .i64 rn)) (by simpa using hne)
     have E1:=z1g E0 ⟨p,1,none⟩ (.int .i64 rn) (by have:=B1.size;show w.heap.size≤p;omega)
     have T2:=T1.grown (z0r ((w7.setCell ⟨p,0,none⟩ (.int .i64 rk)).setCell ⟨p,1,none⟩ (.int .i64 rn)) ⟨p,2,none⟩ (.int .i64 rm)) (by simpa using hne)
     have E2:=z1g E1 ⟨p,2,none⟩ (.int .i64 rm) (by have:=B1.size;show w.heap.size≤p;omega)
     have T3:=T2.grown (z0r (((w7.setCell ⟨p,0,none⟩ (.int .i64 rk)).setCell ⟨p,1,none⟩ (.int .i64 rn)).setCell ⟨p,2,none⟩ (.int .i64 rm)) ⟨p,3,none⟩ (.string RB)) (by simpa using hne)
     have E3:=z1g E2 ⟨p,3,none⟩ (.string RB) (by have:=B1.size;show w.heap.size≤p;omega)
     have TB:=T3
     clear T0 T1 T2 E0 E1 E2 Q1 Q2 Q3
     try simp only [chO12]
     go_simp
     refine hK.out _ _ ?_ (fun hHeld=>?_)
     ·((try dsimp only);exact TB)
     clear hK K
     try simp only [chO12,Act.put,List.setIfInBounds_toArray,List.set_cons_zero,List.set_cons_succ]
     refine wpAnyH_take (i:=13) (oi:=chO13) (v:=?_) rfl gK gK gK (fun _ _ _ h=>h) (Or.inl ⟨by rfl,?_⟩) (by assumption) ?_
     rotate_left
     ·(intro W hSw;(try dsimp only at hSw);try simp only [chO13];first|(go_simp;done)|(go_simp;with_reducible rfl))
     try simp only [chO13,Act.put,List.setIfInBounds_toArray,List.set_cons_zero,List.set_cons_succ]
     refine wpAnyH_done gK ?_ _
     clear y0 y1 y2 y3 f0 f1 f2 f3 ql q11 hHeld
     simp only [List.setIfInBounds_toArray,List.set_cons_zero,List.set_cons_succ] at Q4
     generalize (((w7.setCell ⟨p,0,none⟩ (.int .i64 rk)).setCell ⟨p,1,none⟩ (.int .i64 rn)).setCell ⟨p,2,none⟩ (.int .i64 rm)).setCell ⟨p,3,none⟩ (.string RB)=w12 at *
     go_wp2_with fail
     go_meet
     exact ⟨p,rfl,rfl,⟨E3,Q4,TB⟩⟩
   ·
    try simp only [chO11]
    go_simp
    refine hK.out _ _ ?_ (fun hHeld=>?_)
    ·((try dsimp only);first|exact A1.later (((Below.refl _ w1).alloc (Nat.le_refl _) (.cells #[.int .i64 0,.int .i64 0,.int .i64 0,.string ⟨#[]⟩] 44)).drew)|exact A1.later ((Below.refl _ w1).drew.alloc (Nat.le_refl _) (.cells #[.int .i64 0,.int .i64 0,.int .i64 0,.string ⟨#[]⟩] 44)))
    clear hK K
    try simp only [Act.put,sA,sB,sC]
    have q11:Cbox ((w1.alloc (.cells #[.int .i64 0,.int .i64 0,.int .i64 0,.string ⟨#[]⟩] 44)).drew) w1.heap.size #[.int .i64 0,.int .i64 0,.int .i64 0,.string ⟨#[]⟩] 44:=(Cbox.new w1 _ _).later ((Below.refl _ _).drew)
    have d11:=((Below.refl _ w1).alloc (Nat.le_refl _) (.cells #[.int .i64 0,.int .i64 0,.int .i64 0,.string ⟨#[]⟩] 44)).drew
    have hp:w1.heap.size≤w1.heap.size:=Nat.le_refl _
    generalize (w1.alloc (.cells #[.int .i64 0,.int .i64 0,.int .i64 0,.string ⟨#[]⟩] 44)).drew=w11 at *
    generalize hpe:w1.heap.size=p at q11 hp ⊢
    refine wpAnyH_ready (rs:=[5]) gK (by simp) ?_
    refine AllReadyH.cons (o:=chO5) rfl (fun K hK=>?_) AllReadyH.nil
    try simp only [chO5]
    go_simp
    (refine (SC _ (z0a B1 d11)).mono ?_)
    rintro e w5 ⟨⟨ta,na,tc,nc,rfl,st5,sn5⟩,b5⟩
    have d5:Below w1.heap.size w1 w5:=z0a d11 b5
    have q11:=q11.later b5
    refine hK.out _ _ ?_ (fun hHeld=>?_)
    ·((try dsimp only);exact A1.later d5)
    clear hK K
    try simp only [Act.put,sA,sB,sC]
    refine wpAnyH_ready (rs:=[7]) gK (by simp) ?_
    refine AllReadyH.cons (o:=chO7) rfl (fun K hK=>?_) AllReadyH.nil
    try simp only [chO7]
    go_simp
    (refine (EV _ _ _ _ _ (z0a B1 d5) st5 sn5).mono ?_)
    rintro e w7 ⟨rfl,b7⟩
    have d7:Below w1.heap.size w1 w7:=z0a d5 b7
    have q11:=q11.later b7
    refine hK.out _ _ ?_ (fun hHeld=>?_)
    ·((try dsimp only);exact A1.later d7)
    clear hK K
    try simp only [Act.put,sA,sB,sC]
    refine wpAnyH_take (i:=8) (oi:=chO8) (v:=?_) rfl gK gK gK (fun _ _ _ h=>h) (Or.inl ⟨by rfl,?_⟩) (by assumption) ?_
    rotate_left
    ·(intro W hSw;(try dsimp only at hSw);try simp only [chO8];first|(go_simp;done)|(go_simp;with_reducible rfl))
    try simp only [chO8,Act.put,List.setIfInBounds_toArray,List.set_cons_zero,List.set_cons_succ]
    refine wpAnyH_take (i:=9) (oi:=chO9) (v:=?_) rfl gK gK gK (fun _ _ _ h=>h) (Or.inl ⟨by rfl,?_⟩) (by assumption) ?_
    rotate_left
    ·(intro W hSw;(try dsimp only at hSw);try simp only [chO9];first|(go_simp;done)|(go_simp;with_reducible rfl))
    try simp only [chO9,Act.put,List.setIfInBounds_toArray,List.set_cons_zero,List.set_cons_succ]
    refine wpAnyH_take (i:=10) (oi:=chO10) (v:=?_) rfl gK gK gK (fun _ _ _ h=>h) (Or.inl ⟨by rfl,?_⟩) (by assumption) ?_
    rotate_left
    ·(intro W hSw;(try dsimp only at hSw);try simp only [chO10];first|(go_simp;done)|(go_simp;with_reducible rfl))
    try simp only [chO10,Act.put,List.setIfInBounds_toArray,List.set_cons_zero,List.set_cons_succ]
    refine wpAnyH_ready (rs:=[12]) gK (by simp) ?_
    refine AllReadyH.cons (o:=chO12) rfl (fun K hK=>?_) AllReadyH.nil
    have y0:=q11.at 0
    have y1:=q11.at 1
    have y2:=q11.at 2
    have y3:=q11.at 3
    have f0:=q11.free 0
    have f1:=q11.free 1
    have f2:=q11.free 2
    have f3:=q11.free 3
    have ql:=q11.lt
    simp at y0 y1 y2 y3
    have Q1:=z0q q11 0 (.int .i64 rk)
    have Q2:=z0q Q1 1 (.int .i64 rn)
    have Q3:=z0q Q2 2 (.int .i64 rm)
    have Q4:=z0q Q3 3 (.string RB)
    have hne:w.heap.size≠p:=by have:=A1.lt;omega
    have T0:=(A1.later d7).grown (z0r w7 ⟨p,0,none⟩ (.int .i64 rk)) (by simpa using hne)
    have E0:=z1g (z0a B1 d7) ⟨p,0,none⟩ (.int .i64 rk) (by have:=B1.size;show w.heap.size≤p;omega)
    have T1:=T0.grown (z0r (w7.setCell ⟨p,0,none⟩ (.int .i64 rk)) ⟨p,1,none⟩ (.int .i64 rn)) (by simpa using hne)
    have E1:=z1g E0 ⟨p,1,none⟩ (.int .i64 rn) (by have:=B1.size;show w.heap.size≤p;omega)
    have T2:=T1.grown (z0r ((w7.setCell ⟨p,0,none⟩ (.int .i64 rk)).setCell ⟨p,1,none⟩ (.int .i64 rn)) ⟨p,2,none⟩ (.int .i64 rm)) (by simpa using hne)
    have E2:=z1g E1 ⟨p,2,none⟩ (.int .i64 rm) (by have:=B1.size;show w.heap.size≤p;omega)
    have T3:=T2.grown (z0r (((w7.setCell ⟨p,0,none⟩ (.int .i64 rk)).setCell ⟨p,1,none⟩ (.int .i64 rn)).setCell ⟨p,2,none⟩ (.int .i64 rm)) ⟨p,3,none⟩ (.string RB)) (by simpa using hne)
    have E3:=z1g E2 ⟨p,3,none⟩ (.string RB) (by have:=B1.size;show w.heap.size≤p;omega)
    have TB:=T3
    clear T0 T1 T2 E0 E1 E2 Q1 Q2 Q3
    try simp only [chO12]
    go_simp
    refine hK.out _ _ ?_ (fun hHeld=>?_)
    ·((try dsimp only);exact TB)
    clear hK K
    try simp only [chO12,Act.put,List.setIfInBounds_toArray,List.set_cons_zero,List.set_cons_succ]
    refine wpAnyH_take (i:=13) (oi:=chO13) (v:=?_) rfl gK gK gK (fun _ _ _ h=>h) (Or.inl ⟨by rfl,?_⟩) (by assumption) ?_
    rotate_left
    ·(intro W hSw;(try dsimp only at hSw);try simp only [chO13];first|(go_simp;done)|(go_simp;with_reducible rfl))
    try simp only [chO13,Act.put,List.setIfInBounds_toArray,List.set_cons_zero,List.set_cons_succ]
    refine wpAnyH_done gK ?_ _
    clear y0 y1 y2 y3 f0 f1 f2 f3 ql q11 hHeld
    simp only [List.setIfInBounds_toArray,List.set_cons_zero,List.set_cons_succ] at Q4
    generalize (((w7.setCell ⟨p,0,none⟩ (.int .i64 rk)).setCell ⟨p,1,none⟩ (.int .i64 rn)).setCell ⟨p,2,none⟩ (.int .i64 rm)).setCell ⟨p,3,none⟩ (.string RB)=w12 at *
    go_wp2_with fail
    go_meet
    exact ⟨p,rfl,rfl,⟨E3,Q4,TB⟩⟩
 rename World=>w2
 obtain ⟨p,rfl,rfl,hcut⟩:=hcut
 obtain ⟨B2,Q2,T2⟩:=hcut.out
 clear hcut SC EV A1 B1
 have y0:=Q2.at 0
 have y1:=Q2.at 1
 have y2:=Q2.at 2
 have y3:=Q2.at 3
 have yl:=Q2.lt
 simp at y0 y1 y2 y3
 by_cases hre:re=0
 case neg =>
  have hre':(re != 0)=true:=by simpa using hre
  have HS:Hid (X=re):=by show _=_;rw [HX.out,if_neg hre]
  clear hre
  go_wp2
  go_ret
  exact ⟨by rw [HS.out];rfl,B2⟩
 have HY:=HX.out
 rw [if_pos hre] at HY
 subst hre
 have HZ:Hid (X=(if tb=true then (if tn=0 then (37:Int) else 0) else 31)):=HY
 clear HY HX
 cases tb with
 | false =>
  have HS:Hid (X=31):=by show _=_;rw [HZ.out,if_neg (by simp)]
  go_wp2_with (go_at_call 39;refine (TR _).mono ?_;rintro e w3 ⟨rfl,g3⟩;have B3:=z0a B2 g3.below)
  go_ret
  exact ⟨by rw [HS.out];rfl,B3⟩
 | true =>
  by_cases htn:tn=0
  ·have HS:Hid (X=37):=by show _=_;rw [HZ.out,if_pos rfl,if_pos htn]
   subst htn
   go_wp2_with (go_at_call 39;refine (TR _).mono ?_;rintro e w3 ⟨rfl,g3⟩;have B3:=z0a B2 g3.below)
   go_ret
   exact ⟨by rw [HS.out];rfl,B3⟩
  ·have HS:Hid (X=0):=by show _=_;rw [HZ.out,if_pos rfl,if_neg htn]
   have htn':(tn==0)=false:=by simpa using htn
   clear htn
   go_wp2_with (go_at_call 39;refine (TR _).mono ?_;rintro e w3 ⟨rfl,g3⟩;have B3:=z0a B2 g3.below)
   go_ret
   exact ⟨by rw [HS.out];rfl,B3⟩
end Go.Proofs.YtljkonkfeiojnaaGreatDoor

namespace Go.Proofs.YtljkonkfeiojnaaGreatDoor
open Go.RowKit Go.Shelf
attribute [local go_sem] z0f z0b z0c z0e z0m z0k z0h z0d z0g z2n z1u z3k z1v z2m z2q z3h z2p z3g z2d z2r
def rscR (n m s:Int):Va × Int:=if rE n m s=0 then (⟨2,rU n m s,rS n m s,[]⟩,0) else (nul,rE n m s)
theorem rescaled_any (k n m s:Int) (b:ByteArray) (w:World) (hP:Pw w) (h0:-9223372036854775808≤n) (h1:n≤9223372036854775807) :
  Calls Tryz.prog 34 #[va k n m b,.int .i64 s] w fun e w'=>e=.returned (rs (rscR n m s))∧Grew w w':=by
 have D:∀ W,Grew w W→Calls Tryz.prog 57 #[dv n m,.int .i64 s] W fun e w'=>e=.returned (.tuple #[dv (rU n m s) (rS n m s),.int .i64 (rE n m s)])∧Grew W w':=fun W h=>rescale_any n m s W (hP.later h) h0 h1
 unfold rscR
 generalize rU n m s=U at *
 generalize rS n m s=S at *
 generalize rE n m s=E at *
 clear hP h0 h1
 by_cases hE:E=0
 ·subst hE
  rw [if_pos rfl]
  go_enter Tryz.func34,Tryz.ntmps34
  go_wp2_with (go_at_call 57;refine (D _ gB).mono ?_;rintro e w1 ⟨rfl,os1,n1,rfl⟩)
  refine bodyPost_ret_by (v:=.tuple #[va 2 U S ⟨#[]⟩,.int .i64 0]) ?_ rfl ⟨rfl,gB⟩
  simp [results,Tryz.results34,go_sem]
 ·rw [if_neg hE]
  have hE':(E != 0)=true:=by simpa using hE
  clear hE
  go_enter Tryz.func34,Tryz.ntmps34
  go_wp2_with (go_at_call 57;refine (D _ gB).mono ?_;rintro e w1 ⟨rfl,os1,n1,rfl⟩)
  refine bodyPost_ret_by (v:=.tuple #[va 0 0 0 ⟨#[]⟩,.int .i64 E]) ?_ rfl ⟨rfl,gB⟩
  simp [results,Tryz.results34,go_sem]
def fitV (v:Va) (c:Co) (key:Bool):Va × Int :=
 if v.k=0 then (if (c.m || key)=true then (nul,35) else (v,0)) else if c.k=2∧(v.k=1∨v.k=2) then rscR v.n v.m c.s else if v.k=c.k then (v,0) else (nul,31)
theorem fit_nullM (vn vm ck cs:Int) (vb N:ByteArray) (_cm ky:Bool) (w:World) :
  Calls Tryz.prog 16 #[va 0 vn vm vb,.agg #[.string N,.int .i64 ck,.int .i64 cs,.bool true],.bool ky] w fun e w'=>e=.returned (.tuple #[va 0 0 0 ⟨#[]⟩,.int .i64 35])∧Grew w w':=by
 go_enter Tryz.func16,Tryz.ntmps16
 go_wp2
 refine bodyPost_ret_by (v:=.tuple #[va 0 0 0 ⟨#[]⟩,.int .i64 35]) ?_ rfl ⟨rfl,gB⟩
 simp [results,Tryz.results16,go_sem]
theorem fit_nullK (vn vm ck cs:Int) (vb N:ByteArray) (_cm _ky:Bool) (w:World) :
  Calls Tryz.prog 16 #[va 0 vn vm vb,.agg #[.string N,.int .i64 ck,.int .i64 cs,.bool false],.bool true] w fun e w'=>e=.returned (.tuple #[va 0 0 0 ⟨#[]⟩,.int .i64 35])∧Grew w w':=by
 go_enter Tryz.func16,Tryz.ntmps16
 go_wp2
 refine bodyPost_ret_by (v:=.tuple #[va 0 0 0 ⟨#[]⟩,.int .i64 35]) ?_ rfl ⟨rfl,gB⟩
 simp [results,Tryz.results16,go_sem]
theorem fit_null (vn vm ck cs:Int) (vb N:ByteArray) (_cm _ky:Bool) (w:World) :
  Calls Tryz.prog 16 #[va 0 vn vm vb,.agg #[.string N,.int .i64 ck,.int .i64 cs,.bool false],.bool false] w fun e w'=>e=.returned (.tuple #[va 0 vn vm vb,.int .i64 0])∧Grew w w':=by
 go_enter Tryz.func16,Tryz.ntmps16
 go_wp2
 refine bodyPost_ret_by (v:=.tuple #[va 0 vn vm vb,.int .i64 0]) ?_ rfl ⟨rfl,gB⟩
 simp [results,Tryz.results16,go_sem]
theorem fit_resc1 (vn vm cs:Int) (vb N:ByteArray) (cm ky:Bool) (w:World) (r:Va × Int) (hr:∀ W,Grew w W→Calls Tryz.prog 34 #[va 1 vn vm vb,.int .i64 cs] W fun e w'=>e=.returned (rs r)∧Grew W w') :
  Calls Tryz.prog 16 #[va 1 vn vm vb,.agg #[.string N,.int .i64 2,.int .i64 cs,.bool cm],.bool ky] w fun e w'=>e=.returned (rs r)∧Grew w w':=by
 go_enter Tryz.func16,Tryz.ntmps16
 go_wp2_with (go_at_call 34;refine (hr _ gB).mono ?_;rintro e w1 ⟨rfl,os1,n1,rfl⟩)
 refine bodyPost_ret_by (v:=rs r) ?_ rfl ⟨rfl,gB⟩
 simp [results,Tryz.results16,go_sem]
theorem fit_resc2 (vn vm cs:Int) (vb N:ByteArray) (cm ky:Bool) (w:World) (r:Va × Int) (hr:∀ W,Grew w W→Calls Tryz.prog 34 #[va 2 vn vm vb,.int .i64 cs] W fun e w'=>e=.returned (rs r)∧Grew W w') :
  Calls Tryz.prog 16 #[va 2 vn vm vb,.agg #[.string N,.int .i64 2,.int .i64 cs,.bool cm],.bool ky] w fun e w'=>e=.returned (rs r)∧Grew w w':=by
 go_enter Tryz.func16,Tryz.ntmps16
 go_wp2_with (go_at_call 34;refine (hr _ gB).mono ?_;rintro e w1 ⟨rfl,os1,n1,rfl⟩)
 refine bodyPost_ret_by (v:=rs r) ?_ rfl ⟨rfl,gB⟩
 simp [results,Tryz.results16,go_sem]
theorem fit_type2 (vk vn vm cs:Int) (vb N:ByteArray) (cm ky:Bool) (w:World) (h0:(vk==0)=false) (h1:(vk==1)=false) (h2:(vk==2)=false) (h3:(vk != 2)=true) :
  Calls Tryz.prog 16 #[va vk vn vm vb,.agg #[.string N,.int .i64 2,.int .i64 cs,.bool cm],.bool ky] w fun e w'=>e=.returned (.tuple #[va 0 0 0 ⟨#[]⟩,.int .i64 31])∧Grew w w':=by
 go_enter Tryz.func16,Tryz.ntmps16
 go_wp2
 refine bodyPost_ret_by (v:=.tuple #[va 0 0 0 ⟨#[]⟩,.int .i64 31]) ?_ rfl ⟨rfl,gB⟩
 simp [results,Tryz.results16,go_sem]
theorem fit_type (vk vn vm ck cs:Int) (vb N:ByteArray) (cm ky:Bool) (w:World) (h0:(vk==0)=false) (h1:(ck==2)=false) (h3:(vk != ck)=true) :
  Calls Tryz.prog 16 #[va vk vn vm vb,.agg #[.string N,.int .i64 ck,.int .i64 cs,.bool cm],.bool ky] w fun e w'=>e=.returned (.tuple #[va 0 0 0 ⟨#[]⟩,.int .i64 31])∧Grew w w':=by
 go_enter Tryz.func16,Tryz.ntmps16
 go_wp2
 refine bodyPost_ret_by (v:=.tuple #[va 0 0 0 ⟨#[]⟩,.int .i64 31]) ?_ rfl ⟨rfl,gB⟩
 simp [results,Tryz.results16,go_sem]
theorem fit_same (vk vn vm cs:Int) (vb N:ByteArray) (cm ky:Bool) (w:World) (h0:(vk==0)=false) (h1:(vk==2)=false) (hb:vb.size≤140737488351232) :
  Calls Tryz.prog 16 #[va vk vn vm vb,.agg #[.string N,.int .i64 vk,.int .i64 cs,.bool cm],.bool ky] w fun e w'=>e=.returned (.tuple #[va vk vn vm vb,.int .i64 0])∧Below w.heap.size w w':=by
 have CL:=fun W=>z4a vb W hb
 have h3:(vk != vk)=false:=by simp
 clear hb
 have hG:Grew w (((w.alloc (.cells #[.int .i64 vk,.int .i64 vn,.int .i64 vm,.string vb] 44)).alloc (.cells #[.string N,.int .i64 vk,.int .i64 cs,.bool cm] 53)).alloc (.cells #[.int .i64 0,.int .i64 0,.int .i64 0,.string ⟨#[]⟩] 44)):=gB
 go_enter Tryz.func16,Tryz.ntmps16
 go_wp2_with fail
 refine (CL _).mono ?_
 rintro e w1 ⟨rfl,b1⟩
 have BF:=z0a hG.below b1
 obtain ⟨os,d,rfl⟩:=wide b1
 clear b1 hG CL
 go_wp2
 refine bodyPost_ret_by (v:=.tuple #[va vk vn vm vb,.int .i64 0]) ?_ rfl ⟨rfl,?_⟩
 ·simp [results,Tryz.results16,go_sem]
 ·have h:=(show Grew w (more (((w.alloc (.cells #[.int .i64 vk,.int .i64 vn,.int .i64 vm,.string vb] 44)).alloc (.cells #[.string N,.int .i64 vk,.int .i64 cs,.bool cm] 53)).alloc (.cells #[.int .i64 vk,.int .i64 vn,.int .i64 vm,.string vb] 44)) os) from gB).below
  exact ⟨h.os,h.tape,h.output,h.size,h.block⟩
theorem fitted_any (v:Va) (c:Co) (key:Bool) (w:World) (hP:Pw w) (hi:vin v) (hb:v.b.length≤140737488351232) :
  Calls Tryz.prog 16 #[vv v,cov c,.bool key] w fun e w'=>e=.returned (rs (fitV v c key))∧Below w.heap.size w w':=by
 have RS:∀ (k:Int) W,Grew w W→Calls Tryz.prog 34 #[va k v.n v.m ⟨v.b.toArray⟩,.int .i64 c.s] W fun e w'=>e=.returned (rs (rscR v.n v.m c.s))∧Grew W w':=fun k W h=>rescaled_any k v.n v.m c.s ⟨v.b.toArray⟩ W (hP.later h) hi.1.1 hi.1.2
 obtain ⟨vk,vn,vm,vb⟩:=v
 obtain ⟨cn,ck,cs,cm⟩:=c
 unfold fitV vv cov
 simp only at *
 have G:∀ {P:Ending→Prop},(Calls Tryz.prog 16 #[va vk vn vm ⟨vb.toArray⟩,.agg #[.string ⟨cn.toArray⟩,.int .i64 ck,.int .i64 cs,.bool cm],.bool key] w fun e w'=>P e∧Grew w w')→Calls Tryz.prog 16 #[va vk vn vm ⟨vb.toArray⟩,.agg #[.string ⟨cn.toArray⟩,.int .i64 ck,.int .i64 cs,.bool cm],.bool key] w fun e w'=>P e∧Below w.heap.size w w':=fun h=>h.mono fun e w' ⟨a,b⟩=>⟨a,b.below⟩
 by_cases h0:vk=0
 ·subst h0
  rw [if_pos rfl]
  cases cm with
  | true=>rw [if_pos (by simp)];exact G (fit_nullM vn vm ck cs ⟨vb.toArray⟩ ⟨cn.toArray⟩ true key w)
  | false =>
   cases key with
   | true=>rw [if_pos (by simp)];exact G (fit_nullK vn vm ck cs ⟨vb.toArray⟩ ⟨cn.toArray⟩ true true w)
   | false=>rw [if_neg (by simp)];exact G (fit_null vn vm ck cs ⟨vb.toArray⟩ ⟨cn.toArray⟩ true true w)
 rw [if_neg h0]
 have h0':(vk==0)=false:=by simpa using h0
 by_cases h2:ck=2∧(vk=1∨vk=2)
 ·rw [if_pos h2]
  obtain ⟨rfl,h2⟩:=h2
  rcases h2 with rfl|rfl
  ·exact G (fit_resc1 vn vm cs ⟨vb.toArray⟩ ⟨cn.toArray⟩ cm key w _ (RS 1))
  ·exact G (fit_resc2 vn vm cs ⟨vb.toArray⟩ ⟨cn.toArray⟩ cm key w _ (RS 2))
 rw [if_neg h2]
 by_cases h3:vk=ck
 ·subst h3
  rw [if_pos rfl]
  exact fit_same vk vn vm cs ⟨vb.toArray⟩ ⟨cn.toArray⟩ cm key w h0' (by simp;omega) hb
 rw [if_neg h3]
 by_cases h4:ck=2
 ·subst h4
  exact G (fit_type2 vk vn vm cs ⟨vb.toArray⟩ ⟨cn.toArray⟩ cm key w h0' (by simp;omega) (by simp;omega) (by simp;omega))
 ·exact G (fit_type vk vn vm ck cs ⟨vb.toArray⟩ ⟨cn.toArray⟩ cm key w h0' (by simp;omega) (by simpa using h3))
end Go.Proofs.YtljkonkfeiojnaaGreatDoor

namespace Go.Proofs.YtljkonkfeiojnaaGreatDoor
open Go.RowKit Go.Shelf
attribute [local go_sem] z0f z0b z0c z0e z0m z0k z0h z0d z0g
end Go.Proofs.YtljkonkfeiojnaaGreatDoor

namespace Go.Proofs.YtljkonkfeiojnaaGreatDoor
open Go.RowKit Go.Shelf
theorem Vk.free {w:World} {base n cap g:Nat} {st:List Va} (h:Vk w base (.slice (some ⟨g,0,none⟩) n cap) st) (j:Nat):w.frozen? ⟨g,j,none⟩=false:=by
 obtain ⟨h1,h2⟩:=h
 rcases h2 with ⟨h,_⟩|⟨g',cap',cur,hv,hb,hg,_⟩
 ·cases h
 ·cases hv
  simp [World.frozen?,hg]
end Go.Proofs.YtljkonkfeiojnaaGreatDoor

namespace Go.Proofs.YtljkonkfeiojnaaGreatDoor
open Go.RowKit Go.Shelf
attribute [local go_sem] z0f z0b z0c z0e z0m z0k z0h z0d z0g
theorem at4_set {w:World} {g o:Nat} {u v:Va} (h:At4 w g o u):At4 ((((w.setCell ⟨g,o,none⟩ (.int .i64 v.k)).setCell ⟨g,o+1,none⟩ (.int .i64 v.n)).setCell ⟨g,o+2,none⟩ (.int .i64 v.m)).setCell ⟨g,o+3,none⟩ (.string ⟨v.b.toArray⟩)) g o v:=by
 obtain ⟨h0,h1,h2,h3⟩:=h
 refine ⟨?_,?_,?_,?_⟩
 all_goals simp (maxDischargeDepth:=12) [go_sem,h0,h1,h2,h3]
theorem at4_off {w:World} {g o o':Nat} {u:Va} (a b c d:Value) (h:At4 w g o u) (hne:o+3<o'∨o'+3<o):At4 ((((w.setCell ⟨g,o',none⟩ a).setCell ⟨g,o'+1,none⟩ b).setCell ⟨g,o'+2,none⟩ c).setCell ⟨g,o'+3,none⟩ d) g o u:=by
 have e:∀ (W:World) (x y:Nat) (z:Value),x≠y→(W.setCell ⟨g,y,none⟩ z).cell? ⟨g,x,none⟩=W.cell? ⟨g,x,none⟩:=fun W x y z hxy=>World.cell?_setCell_other W _ _ _ (by intro h;simp only [Addr.mk.injEq] at h;omega)
 obtain ⟨h0,h1,h2,h3⟩:=h
 refine ⟨?_,?_,?_,?_⟩
 ·rw [e _ _ _ _ (by omega),e _ _ _ _ (by omega),e _ _ _ _ (by omega),e _ _ _ _ (by omega)];exact h0
 ·rw [e _ _ _ _ (by omega),e _ _ _ _ (by omega),e _ _ _ _ (by omega),e _ _ _ _ (by omega)];exact h1
 ·rw [e _ _ _ _ (by omega),e _ _ _ _ (by omega),e _ _ _ _ (by omega),e _ _ _ _ (by omega)];exact h2
 ·rw [e _ _ _ _ (by omega),e _ _ _ _ (by omega),e _ _ _ _ (by omega),e _ _ _ _ (by omega)];exact h3
end Go.Proofs.YtljkonkfeiojnaaGreatDoor

namespace Go.Proofs.YtljkonkfeiojnaaGreatDoor
open Go.RowKit Go.Shelf
def mz8 (n:Nat):Array Value:=madeCells #[.int .i64 0,.int .i64 0,.int .i64 0,.string ⟨#[]⟩] (n*4)
theorem mz8_get (n i:Nat) (h:i<n*4):(mz8 n)[i]?=some ((#[.int .i64 0,.int .i64 0,.int .i64 0,.string ⟨#[]⟩]:Array Value)[i%4]!):=by
 unfold mz8 madeCells
 rw [Array.getElem?_map,Array.getElem?_range,if_pos h]
 rfl
theorem mz8_at (w:World) (n j:Nat) (h:j<n):At4 (w.alloc (.cells (mz8 n) 44)) w.heap.size (j*4) ⟨0,0,0,[]⟩:=by
 have C:=Cbox.new w (mz8 n) 44
 refine ⟨?_,?_,?_,?_⟩
 ·rw [C.at,mz8_get n _ (by omega),show j*4%4=0 by omega];rfl
 ·rw [C.at,mz8_get n _ (by omega),show (j*4+1)%4=1 by omega];rfl
 ·rw [C.at,mz8_get n _ (by omega),show (j*4+2)%4=2 by omega];rfl
 ·rw [C.at,mz8_get n _ (by omega),show (j*4+3)%4=3 by omega];rfl
theorem make_run8 (n:Nat) (hn:n≤64) (wx:World):(Instr.makeSlice 28 (.int .i64 (n:Int)) (.int .i64 (n:Int))).run Tryz.prog wx=.ok (.slice (some ⟨wx.heap.size,0,none⟩) n n) (wx.alloc (.cells (mz8 n) 44)):=by
 obtain ⟨i0,hi,hz,hs,hb⟩:=info_parts Tryz.info44
 have h:=run_make (P:=Tryz.prog) wx 28 44 i0 _ Tryz.underlying28 hi hz .i64 .i64 (n:Int) (n:Int) (by omega) (Int.le_refl _) (by rw [hb];omega) (by omega)
 rw [hs,Int.toNat_natCast] at h
 exact h
def c00:Co:=⟨[],0,0,false⟩
def z2a (t:Tb) (row:List Va) (i:Nat):Va × Int:=fitV (row.getD i nul) (t.cs.getD i c00) (t.key.contains (i:Int))
theorem fitAt_eq (t:Tb) (row:List Va) (k:Nat) (hk:k<row.length) (hc:k<t.cs.length):z2a t row k=fitV row[k] t.cs[k] (t.key.contains (k:Int)):=by
 unfold z2a
 rw [List.getD_eq_getElem?_getD,List.getElem?_eq_getElem hk,List.getD_eq_getElem?_getD,List.getElem?_eq_getElem hc]
 rfl
def z2f (t:Tb) (row:List Va):List Va:=(List.range row.length).map fun i=>(z2a t row i).1
theorem z2g (t:Tb) (row:List Va):(z2f t row).length=row.length:=by simp [z2f]
theorem z6k (t:Tb) (row:List Va) (i:Nat) (h:i<(z2f t row).length):(z2f t row)[i]=(z2a t row i).1:=by simp [z2f]
def z8y (f:Nat→Int):Nat→Int
 | 0=>0
 | n+1=>if z8y f n=0 then f n else z8y f n
theorem firstE_zero (f:Nat→Int):∀ n,(∀ i,i<n→f i=0)→z8y f n=0:=by
 intro n
 induction n with
 | zero=>intro _;rfl
 | succ n ih =>
  intro h
  rw [z8y,if_pos (ih (fun i hi=>h i (by omega)))]
  exact h n (by omega)
theorem firstE_at (f:Nat→Int) (k:Nat) (h:∀ i,i<k→f i=0) (hk:f k≠0):∀ n,k<n→z8y f n=f k:=by
 intro n
 induction n with
 | zero=>intro h;omega
 | succ n ih =>
  intro hn
  rw [z8y]
  by_cases e:k=n
  ·subst e
   rw [if_pos (firstE_zero f k h)]
  ·rw [ih (by omega),if_neg hk]
def fitG (t:Tb) (row:List Va):List Va × Int :=
 if z8y (fun i=>(z2a t row i).2) row.length=0 then (if chdR t (z2f t row)=0 then (z2f t row,0) else ([],chdR t (z2f t row))) else ([],z8y (fun i=>(z2a t row i).2) row.length)
theorem fitG_err (t:Tb) (row:List Va) (k:Nat) (h1:k<row.length) (h2:∀ i,i<k→(z2a t row i).2=0) (h3:(z2a t row k).2≠0):fitG t row=([],(z2a t row k).2):=by
 unfold fitG
 rw [firstE_at (fun i=>(z2a t row i).2) k h2 h3 _ h1,if_neg h3]
theorem fitG_ok (t:Tb) (row:List Va) (h:∀ i,i<row.length→(z2a t row i).2=0):fitG t row=if chdR t (z2f t row)=0 then (z2f t row,0) else ([],chdR t (z2f t row)):=by
 unfold fitG
 rw [firstE_zero (fun i=>(z2a t row i).2) _ h,if_pos rfl]
def fitR (t:Tb) (row:List Va):List Va × Int:=if tbP t∧row.length=t.cs.length∧ckE row=0 then fitG t row else ([],1)
theorem ck_all8 {l:List Va} (h:ckE l=0):∀ v∈l,vr v=true:=by
 unfold ckE at h
 split at h
 ·cases h
 ·split at h
  ·rename_i h2;exact List.all_eq_true.1 h2
  ·cases h
theorem rsc_vin (n m s:Int):vin (rscR n m s).1:=by
 unfold rscR
 by_cases h:rE n m s=0
 ·rw [if_pos h]
  unfold rE at h
  by_cases hs:(z0u m&&z0u s)=true
  ·rw [if_pos hs] at h
   have h2:=Bool.and_eq_true_iff.1 hs
   have h3:=(z1f s).1 h2.2
   unfold rU rS nz fs
   rw [if_pos hs,if_pos hs]
   by_cases hf:fits (dq n m 1 0 s)=true
   ·rw [if_pos hf,if_pos hf]
    exact ⟨(z5s _).1 hf,by show _≤s;omega,by show s≤_;omega⟩
   ·rw [if_neg hf,if_neg hf]
    exact ⟨⟨by decide,by decide⟩,by decide,by decide⟩
  ·rw [if_neg hs] at h;cases h
 ·rw [if_neg h];exact z3a.2
def z9q (t:Tb) (row:List Va) (k j:Nat):Va:=if j<k then (z2a t row j).1 else nul
theorem pickM_succ (t:Tb) (row:List Va) (k j:Nat):z9q t row (k+1) j=if j=k then (z2a t row k).1 else z9q t row k j:=by
 unfold z9q
 by_cases h:j=k
 ·subst h;rw [if_pos (by omega),if_pos rfl]
 ·rw [if_neg h]
  by_cases h1:j<k
  ·rw [if_pos (by omega),if_pos h1]
  ·rw [if_neg (by omega),if_neg h1]
theorem fitV_vin (v:Va) (c:Co) (k:Bool) (h:vin v):vin (fitV v c k).1:=by
 unfold fitV
 split
 ·split
  ·exact z3a.2
  ·exact h
 ·split
  ·exact rsc_vin _ _ _
  ·split
   ·exact h
   ·exact z3a.2
theorem made_vin (t:Tb) (row:List Va) (h:∀ v∈row,vin v):∀ v∈z2f t row,vin v:=by
 intro v hv
 simp only [z2f,List.mem_map,List.mem_range] at hv
 obtain ⟨i,hi,rfl⟩:=hv
 refine fitV_vin _ _ _ ?_
 rw [List.getD_eq_getElem?_getD,List.getElem?_eq_getElem hi]
 exact h _ (List.getElem_mem hi)
end Go.Proofs.YtljkonkfeiojnaaGreatDoor
