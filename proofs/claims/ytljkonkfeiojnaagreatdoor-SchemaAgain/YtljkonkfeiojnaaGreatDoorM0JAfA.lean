/-
  The walk of SchemaAgain.
  SchemaAgain: the row's frame.
-/
import Derived.Test.YtljkonkfeiojnaaGreatDoorMZJAgM
import Derived.Test.YtljkonkfeiojnaaGreatDoorMWJFitM
import Derived.Test.YtljkonkfeiojnaaGreatDoorMBVKeyB
import Derived.Test.YtljkonkfeiojnaaGreatDoorMKJAfB
import Derived.ChangeMaps5
import Derived.SizedLaws
import Derived.Carry
set_option maxHeartbeats 8000000
set_option maxRecDepth 100000
namespace Go.Proofs.YtljkonkfeiojnaaGreatDoor
open Go.RowKit Go.Shelf
attribute [local go_sem] z0f z0b z0c z0e z0m z0k z0h z0d z0g undef
def agO0:Oper:=⟨some 69,.move (.tmp 6),28, "law.go:132",#[],none⟩
def agO1:Oper:=⟨some 70,.move (.tmp 10),3, "law.go:132",#[],none⟩
def agO2:Oper:=⟨some 71,.indexAddr 28 (.tmp 69) (.tmp 70),0, "law.go:132",#[⟨0,.data⟩,⟨1,.data⟩],none⟩
def agO3:Oper:=⟨some 72,.fieldAddr 44 (.tmp 71) 0,0, "law.go:132",#[⟨2,.data⟩],none⟩
def agO4:Oper:=⟨some 73,.load 3 (.tmp 72),3, "law.go:132",#[⟨3,.data⟩],none⟩
def agO5:Oper:=⟨some 74,.binOp BinOp.neq 3 (.tmp 73) (.const (Value.int IntKind.i64 0)) 3,4, "law.go:132",#[⟨4,.data⟩],none⟩
def agO6:Oper:=⟨some 75,.move (.tmp 74),4, "law.go:132",#[⟨5,.data⟩],none⟩
def agO7:Oper:=⟨some 76,.move (.tmp 6),28, "law.go:132",#[⟨6,.guard⟩],some (6,true)⟩
def agO8:Oper:=⟨some 77,.move (.tmp 10),3, "law.go:132",#[⟨6,.guard⟩],some (6,true)⟩
def agO9:Oper:=⟨some 78,.indexAddr 28 (.tmp 76) (.tmp 77),0, "law.go:132",#[⟨7,.data⟩,⟨8,.data⟩,⟨6,.guard⟩],some (6,true)⟩
def agO10:Oper:=⟨some 79,.fieldAddr 44 (.tmp 78) 0,0, "law.go:132",#[⟨9,.data⟩,⟨6,.guard⟩],some (6,true)⟩
def agO11:Oper:=⟨some 80,.load 3 (.tmp 79),3, "law.go:132",#[⟨10,.data⟩,⟨6,.guard⟩],some (6,true)⟩
def agO12:Oper:=⟨some 81,.fieldAddr 42 (.tmp 11) 1,0, "law.go:132",#[⟨6,.guard⟩],some (6,true)⟩
def agO13:Oper:=⟨some 82,.load 3 (.tmp 81),3, "law.go:132",#[⟨12,.data⟩,⟨6,.guard⟩],some (6,true)⟩
def agO14:Oper:=⟨some 83,.binOp BinOp.neq 3 (.tmp 80) (.tmp 82) 3,4, "law.go:132",#[⟨11,.data⟩,⟨13,.data⟩,⟨6,.guard⟩],some (6,true)⟩
def agO15:Oper:=⟨some 84,.pick (.tmp 75) (.tmp 83) (.const (Value.bool false)),4, "law.go:132",#[⟨6,.data⟩,⟨14,.data⟩],none⟩
def agO16:Oper:=⟨some 85,.move (.tmp 84),4, "law.go:132",#[⟨15,.data⟩,⟨6,.chain⟩],none⟩
def agO17:Oper:=⟨some 86,.move (.tmp 6),28, "law.go:132",#[⟨16,.guard⟩],some (16,false)⟩
def agO18:Oper:=⟨some 87,.move (.tmp 10),3, "law.go:132",#[⟨16,.guard⟩],some (16,false)⟩
def agO19:Oper:=⟨some 88,.indexAddr 28 (.tmp 86) (.tmp 87),0, "law.go:132",#[⟨17,.data⟩,⟨18,.data⟩,⟨16,.guard⟩],some (16,false)⟩
def agO20:Oper:=⟨some 89,.fieldAddr 44 (.tmp 88) 0,0, "law.go:132",#[⟨19,.data⟩,⟨16,.guard⟩],some (16,false)⟩
def agO21:Oper:=⟨some 90,.load 3 (.tmp 89),3, "law.go:132",#[⟨20,.data⟩,⟨16,.guard⟩],some (16,false)⟩
def agO22:Oper:=⟨some 91,.binOp .eql 3 (.tmp 90) (.const (Value.int IntKind.i64 0)) 3,4, "law.go:132",#[⟨21,.data⟩,⟨16,.guard⟩],some (16,false)⟩
def agO23:Oper:=⟨some 92,.move (.tmp 91),4, "law.go:132",#[⟨22,.data⟩,⟨16,.chain⟩,⟨16,.guard⟩],some (16,false)⟩
def agO24:Oper:=⟨some 93,.fieldAddr 42 (.tmp 11) 3,0, "law.go:132",#[⟨23,.guard⟩],some (23,true)⟩
def agO25:Oper:=⟨some 94,.load 4 (.tmp 93),4, "law.go:132",#[⟨24,.data⟩,⟨23,.guard⟩],some (23,true)⟩
def agO26:Oper:=⟨some 95,.pick (.tmp 92) (.tmp 94) (.const (Value.bool false)),4, "law.go:132",#[⟨23,.data⟩,⟨25,.data⟩,⟨16,.guard⟩],some (16,false)⟩
def agO27:Oper:=⟨some 96,.pick (.tmp 85) (.const (Value.bool true)) (.tmp 95),4, "law.go:132",#[⟨16,.data⟩,⟨26,.data⟩],none⟩
def agO28:Oper:=⟨some 97,.move (.tmp 96),4, "law.go:132",#[⟨27,.data⟩,⟨23,.chain⟩],none⟩
def agO29:Oper:=⟨some 98,.move (.tmp 6),28, "law.go:132",#[⟨28,.guard⟩],some (28,false)⟩
def agO30:Oper:=⟨some 99,.move (.tmp 10),3, "law.go:132",#[⟨28,.guard⟩],some (28,false)⟩
def agO31:Oper:=⟨some 100,.indexAddr 28 (.tmp 98) (.tmp 99),0, "law.go:132",#[⟨29,.data⟩,⟨30,.data⟩,⟨28,.guard⟩],some (28,false)⟩
def agO32:Oper:=⟨some 101,.fieldAddr 44 (.tmp 100) 0,0, "law.go:132",#[⟨31,.data⟩,⟨28,.guard⟩],some (28,false)⟩
def agO33:Oper:=⟨some 102,.load 3 (.tmp 101),3, "law.go:132",#[⟨32,.data⟩,⟨28,.guard⟩],some (28,false)⟩
def agO34:Oper:=⟨some 103,.binOp .eql 3 (.tmp 102) (.const (Value.int IntKind.i64 2)) 3,4, "law.go:132",#[⟨33,.data⟩,⟨28,.guard⟩],some (28,false)⟩
def agO35:Oper:=⟨some 104,.move (.tmp 103),4, "law.go:132",#[⟨34,.data⟩,⟨28,.chain⟩,⟨28,.guard⟩],some (28,false)⟩
def agO36:Oper:=⟨some 105,.move (.tmp 6),28, "law.go:132",#[⟨35,.guard⟩],some (35,true)⟩
def agO37:Oper:=⟨some 106,.move (.tmp 10),3, "law.go:132",#[⟨35,.guard⟩],some (35,true)⟩
def agO38:Oper:=⟨some 107,.indexAddr 28 (.tmp 105) (.tmp 106),0, "law.go:132",#[⟨36,.data⟩,⟨37,.data⟩,⟨35,.guard⟩],some (35,true)⟩
def agO39:Oper:=⟨some 108,.fieldAddr 44 (.tmp 107) 2,0, "law.go:132",#[⟨38,.data⟩,⟨35,.guard⟩],some (35,true)⟩
def agO40:Oper:=⟨some 109,.load 3 (.tmp 108),3, "law.go:132",#[⟨39,.data⟩,⟨35,.guard⟩],some (35,true)⟩
def agO41:Oper:=⟨some 110,.fieldAddr 42 (.tmp 11) 2,0, "law.go:132",#[⟨35,.guard⟩],some (35,true)⟩
def agO42:Oper:=⟨some 111,.load 3 (.tmp 110),3, "law.go:132",#[⟨41,.data⟩,⟨35,.guard⟩],some (35,true)⟩
def agO43:Oper:=⟨some 112,.binOp BinOp.neq 3 (.tmp 109) (.tmp 111) 3,4, "law.go:132",#[⟨40,.data⟩,⟨42,.data⟩,⟨35,.guard⟩],some (35,true)⟩
def agO44:Oper:=⟨some 113,.pick (.tmp 104) (.tmp 112) (.const (Value.bool false)),4, "law.go:132",#[⟨35,.data⟩,⟨43,.data⟩,⟨28,.guard⟩],some (28,false)⟩
def agO45:Oper:=⟨some 114,.pick (.tmp 97) (.const (Value.bool true)) (.tmp 113),4, "law.go:132",#[⟨28,.data⟩,⟨44,.data⟩],none⟩
theorem again8_any (t:Tb) (q:Tp) (ro:Option Addr) (rc:Nat) (row:List Va) (w:World) (hW:TbW w t q) (hz:TbZ t) (hr:Vs w ro row) (h0r:ro=none→row=[]) (hrz:row.length*40≤140737488351232) (hi6:∀ x∈t.ck,vin x.v) (hir:∀ v∈row,vin v) (hT:Tabs w) (hP:Ptab w) (hS:Sg w) (hPw:Pw w) :
  Calls Tryz.prog 3 #[.agg (tbcs t q),.slice ro row.length rc] w fun e w'=>e=.returned (.bool true)∧Below w.heap.size w w':=by
 have hPl:∀ W,Below w.heap.size w W→Pw W:=fun W h k hk=>by rw [h.cell (p:=⟨2,k,none⟩) hPw.pos];exact hPw k hk
 have NU:=lnum8_any
 have KN:∀ W,Below w.heap.size w W→_:=fun W h=>knows8_any W (hT.later h) (hP.later h) (hS.later h) (hPl W h)
 have OW8:∀ W,Below w.heap.size w W→Calls Tryz.prog 5 #[.agg (tbcs t q)] W fun e w'=>(∃ q':Tp,e=.returned (.agg (tbcs t q'))∧TbW w' t q')∧Below W.heap.size W w':=fun W h=>own8_any t q W (hW.later h) hz
 have OWN:∀ W,Below w.heap.size w W→Calls Tryz.prog 7 #[.slice ro row.length rc] W fun e w'=>(∃ yo yc,e=.returned (.slice yo row.length yc)∧Vs w' yo row)∧Below W.heap.size W w':=fun W h=>(vown_any ro rc row W (hr.later h) h0r hrz).mono fun e w' ⟨ao,cap,h1,h2,h3⟩=>⟨⟨ao,cap,h1,h2⟩,h3⟩
 have FIT:∀ (q':Tp) yo yc W,Below w.heap.size w W→TbW W t q'→Vs W yo row→Calls Tryz.prog 6 #[.agg (tbcs t q'),.slice yo row.length yc] W fun e w'=>(∃ ao cap,e=.returned (.tuple #[.slice ao (fitR t row).1.length cap,.int .i64 (fitR t row).2])∧Vs w' ao (fitR t row).1)∧Below W.heap.size W w':=fun q' yo yc W h h1 h2=>(fit_any t q' yo yc row W h1 (hT.later h) (hPl W h) h2 hi6 hir (by omega)).mono fun e w' ⟨⟨ao,cap,h3,h4,_⟩,b⟩=>⟨⟨ao,cap,h3,h4⟩,b⟩
 have FIT2:(fitR t row).2=0→∀ (q':Tp) yo yc W,Below w.heap.size w W→TbW W t q'→Vs W yo (fitR t row).1→Calls Tryz.prog 6 #[.agg (tbcs t q'),.slice yo (fitR t row).1.length yc] W fun e w'=>(∃ ao cap,e=.returned (.tuple #[.slice ao (fitR t row).1.length cap,.int .i64 0])∧Vs w' ao (fitR t row).1)∧Below W.heap.size W w':=fun h0 q' yo yc W h h1 h2=>by
  refine (fit_any t q' yo yc (fitR t row).1 W h1 (hT.later h) (hPl W h) h2 hi6 (fitR_vin hir) (by have:=fitR_len (t:=t) (row:=row);omega)).mono ?_
  rintro e w' ⟨h3,b⟩
  rw [(z8g h0).1] at h3
  obtain ⟨ao,cap,h4,h5,_⟩:=h3
  exact ⟨⟨ao,cap,h4,h5⟩,b⟩
 have SAM:∀ ao' bo' c d W,Vs W ao' (fitR t row).1→Vs W bo' (fitR t row).1→Calls Tryz.prog 9 #[.slice ao' (fitR t row).1.length c,.slice bo' (fitR t row).1.length d] W fun e w'=>e=.returned (.bool true)∧Below W.heap.size W w':=fun ao' bo' c d W h1 h2=>by
  have hl:=fitR_len (t:=t) (row:=row)
  have:=vsame_any ao' bo' c d (fitR t row).1 (fitR t row).1 W h1 h2 (by omega) (by omega)
  rwa [decide_eq_true rfl] at this
 have HN:Hid ((fitR t row).2≠0→(fitR t row).1.length=0):=fun h=>by rw [fitR_none h];rfl
 have HL:Hid ((fitR t row).2=0→(fitR t row).1.length=t.cs.length):=fun h=>(z8g h).2.1
 have HK:Hid ((fitR t row).2=0→∀ i (h1:i<(fitR t row).1.length) (h2:i<t.cs.length),((fitR t row).1[i].k=0∨(fitR t row).1[i].k=t.cs[i].k)∧((fitR t row).1[i].k=0→t.cs[i].m=false)∧((fitR t row).1[i].k=2→(fitR t row).1[i].m=t.cs[i].s)):=fun h=>(z8g h).2.2
 have HAl:Hid ((fitR t row).1.length≤140737488351232):=by show _≤_;have:=fitR_len (t:=t) (row:=row);omega
 have HCw:Hid (Cw w q.co t.cs):=hW.c
 generalize (fitR t row).2=E at *
 generalize (fitR t row).1=A at *
 clear hW hz hr h0r hi6 hir hT hP hS hPw hPl
 unfold tbcs at *
 obtain ⟨co,ko,uo,xo,cc,kc,uc,xc⟩:=q
 simp only at *
 obtain ⟨m,hm⟩:∃ m,t.cs.length=m:=⟨_,rfl⟩
 have HM:Hid (t.cs.length=m):=hm
 simp only [hm] at FIT FIT2 OW8 ⊢
 clear hm
 generalize ByteArray.mk t.n.toArray=NB at *
 generalize t.key.length=kn at *
 generalize t.us.length=un at *
 generalize t.ck.length=xn at *
 generalize row.length=rl at *
 have B1:Below w.heap.size w (w.alloc (.cells #[.string NB,.slice co m cc,.slice ko kn kc,.slice uo un uc,.slice xo xn xc] 27)):=(Below.refl _ _).alloc (Nat.le_refl _) _
 have A1:Cbox (w.alloc (.cells #[.string NB,.slice co m cc,.slice ko kn kc,.slice uo un uc,.slice xo xn xc] 27)) w.heap.size #[.string NB,.slice co m cc,.slice ko kn kc,.slice uo un uc,.slice xo xn xc] 27:=Cbox.new w _ _
 by_cases h300:300<xn
 ·have h3':(300:Int)<(xn:Int):=by omega
  have K1:=KN _ B1
  clear KN OW8 OWN FIT FIT2 SAM
  go_enter Tryz.func3,Tryz.ntmps3
  go_wp2_with (go_at_call 4;refine K1.mono ?_;rintro e w2 ⟨rfl,b2⟩;have B2:=z0a B1 b2)
  go_ret
  exact ⟨rfl,B2⟩
 have h3':¬ (300:Int)<(xn:Int):=by omega
 go_enter Tryz.func3,Tryz.ntmps3
 go_upto_region 1 with fail
 generalize w.alloc (.cells #[.string NB,.slice co m cc,.slice ko kn kc,.slice uo un uc,.slice xo xn xc] 27)=w1 at *
 have z0:=A1.at 0
 have z1:=A1.at 1
 have z2:=A1.at 2
 have z3:=A1.at 3
 have z4:=A1.at 4
 go_wp2_with fail
 refine (OW8 _ B1).mono ?_
 rintro e w2 ⟨⟨q2,rfl,T2⟩,b2⟩
 have FITx:=fun yo yc W h1 h2 h3=>FIT q2 yo yc W h1 h2 h3
 have FITy:=fun hE yo yc W h1 h2 h3=>FIT2 hE q2 yo yc W h1 h2 h3
 clear FIT FIT2 OW8 z0 z1 z2 z3 z4
 obtain ⟨co2,ko2,uo2,xo2,cc2,kc2,uc2,xc2⟩:=q2
 simp only at *
 have B2:=z0a B1 b2
 have A2:=A1.later b2
 have u3:Below w2.heap.size w2 (w2.alloc (.cells #[.string NB,.slice co2 m cc2,.slice ko2 kn kc2,.slice uo2 un uc2,.slice xo2 xn xc2] 33)):=(Below.refl _ _).alloc (Nat.le_refl _) _
 have X3:Cbox (w2.alloc (.cells #[.string NB,.slice co2 m cc2,.slice ko2 kn kc2,.slice uo2 un uc2,.slice xo2 xn xc2] 33)) w2.heap.size #[.string NB,.slice co2 m cc2,.slice ko2 kn kc2,.slice uo2 un uc2,.slice xo2 xn xc2] 33:=Cbox.new w2 _ _
 have T3:Hid (TbW (w2.alloc (.cells #[.string NB,.slice co2 m cc2,.slice ko2 kn kc2,.slice uo2 un uc2,.slice xo2 xn xc2] 33)) t ⟨co2,ko2,uo2,xo2,cc2,kc2,uc2,xc2⟩):=T2.later u3
 have A3:=A2.later u3
 have B3:=z0a B2 u3
 go_upto_region 4 with fail
 generalize w2.alloc (.cells #[.string NB,.slice co2 m cc2,.slice ko2 kn kc2,.slice uo2 un uc2,.slice xo2 xn xc2] 33)=w3 at *
 generalize w2.heap.size=px at *
 clear T2 u3 b2 A1 A2
 refine wp_region_held_drew (S:=(fun W=>Cbox W px #[.string NB,.slice co2 m cc2,.slice ko2 kn kc2,.slice uo2 un uc2,.slice xo2 xn xc2] 33)) gK ?_ (fun hHeld=>?_)
 ·((try dsimp only);exact X3.later ((Below.refl _ w3).drew))
 refine wpAnyH_take (i:=0) (oi:=⟨some 20,.load 33 (.tmp 5),33, "law.go:122",#[],none⟩) (v:=?_) rfl gK gK gK (fun _ _ _ h=>h) (Or.inl ⟨by rfl,?_⟩) (by assumption) ?_
 rotate_left
 ·(intro W hSw;(try dsimp only at hSw);have e0:=hSw.at 0;have e1:=hSw.at 1;have e2:=hSw.at 2;have e3:=hSw.at 3;have e4:=hSw.at 4;first|(go_simp;done)|(go_simp;with_reducible rfl))
 try simp only [Act.put,sA,sB,sC]
 refine wpAnyH_take (i:=1) (oi:=⟨some 21,.move (.tmp 1),28, "law.go:122",#[],none⟩) (v:=?_) rfl gK gK gK (fun _ _ _ h=>h) (Or.inl ⟨by rfl,?_⟩) (by assumption) ?_
 rotate_left
 ·(intro W hSw;(try dsimp only at hSw);have e0:=hSw.at 0;have e1:=hSw.at 1;have e2:=hSw.at 2;have e3:=hSw.at 3;have e4:=hSw.at 4;first|(go_simp;done)|(go_simp;with_reducible rfl))
 try simp only [Act.put,sA,sB,sC]
 refine wpAnyH_ready (rs:=[2]) gK (by simp) ?_
 refine AllReadyH.cons (o:=⟨some 22,.call { callee:=Callee.value (Operand.func 7),args:=#[.tmp 21],argTypes:=#[28] },28, "law.go:122",#[⟨1,.data⟩],none⟩) rfl (fun K hK=>?_) AllReadyH.nil
 go_simp
 (refine (OWN _ (z0a B3 (Below.refl _ w3).drew)).mono ?_;rintro e w4 ⟨⟨yo,yc,rfl,Y4⟩,b4⟩;have d4:Below w3.heap.size w3 w4:=z0a ((Below.refl _ w3).drew) b4;have B4:=z0a B3 d4;have X4:=X3.later d4)
 refine hK.out _ _ ?_ (fun hHeld=>?_)
 ·((try dsimp only);first|exact X5|exact X4)
 clear hK K
 try simp only [Act.put,sA,sB,sC]
 refine wpAnyH_ready (rs:=[3]) gK (by simp) ?_
 refine AllReadyH.cons (o:=⟨some 23,.call { callee:=Callee.value (Operand.func 6),args:=#[.tmp 20,.tmp 22],argTypes:=#[33,28] },36, "law.go:122",#[⟨0,.data⟩,⟨2,.data⟩,⟨2,.chain⟩],none⟩) rfl (fun K hK=>?_) AllReadyH.nil
 go_simp
 (refine (FITx _ _ _ B4 (T3.out.later d4) Y4).mono ?_;rintro e w5 ⟨⟨ao,ac,rfl,V5⟩,b5⟩;have B5:=z0a B4 b5;have X5:=X4.later b5)
 refine hK.out _ _ ?_ (fun hHeld=>?_)
 ·((try dsimp only);first|exact X5|exact X4)
 clear hK K
 try simp only [Act.put,sA,sB,sC]
 refine wpAnyH_take (i:=4) (oi:=⟨some 19,.move (.tmp 23),36, "law.go:122",#[⟨3,.data⟩],none⟩) (v:=?_) rfl gK gK gK (fun _ _ _ h=>h) (Or.inl ⟨by rfl,?_⟩) (by assumption) ?_
 rotate_left
 ·(intro W hSw;(try dsimp only at hSw);have e0:=hSw.at 0;have e1:=hSw.at 1;have e2:=hSw.at 2;have e3:=hSw.at 3;have e4:=hSw.at 4;first|(go_simp;done)|(go_simp;with_reducible rfl))
 try simp only [Act.put,sA,sB,sC]
 refine wpAnyH_take (i:=5) (oi:=⟨some 24,.extract (.tmp 19) 0,28, "law.go:122",#[⟨4,.data⟩],none⟩) (v:=?_) rfl gK gK gK (fun _ _ _ h=>h) (Or.inl ⟨by rfl,?_⟩) (by assumption) ?_
 rotate_left
 ·(intro W hSw;(try dsimp only at hSw);have e0:=hSw.at 0;have e1:=hSw.at 1;have e2:=hSw.at 2;have e3:=hSw.at 3;have e4:=hSw.at 4;first|(go_simp;done)|(go_simp;with_reducible rfl))
 try simp only [Act.put,sA,sB,sC]
 refine wpAnyH_take (i:=6) (oi:=⟨some 25,.extract (.tmp 19) 1,35, "law.go:122",#[⟨4,.data⟩,⟨7,.gcOnly .lateStores⟩],none⟩) (v:=?_) rfl gK gK gK (fun _ _ _ h=>h) (Or.inl ⟨by rfl,?_⟩) (by assumption) ?_
 rotate_left
 ·(intro W hSw;(try dsimp only at hSw);have e0:=hSw.at 0;have e1:=hSw.at 1;have e2:=hSw.at 2;have e3:=hSw.at 3;have e4:=hSw.at 4;first|(go_simp;done)|(go_simp;with_reducible rfl))
 try simp only [Act.put,sA,sB,sC]
 refine wpAnyH_take (i:=7) (oi:=⟨some 6,.assign (.tmp 24),28, "law.go:122",#[⟨5,.data⟩,⟨3,.chain⟩,⟨0,.phase⟩,⟨1,.phase⟩,⟨2,.phase⟩,⟨3,.phase⟩,⟨4,.phase⟩,⟨5,.phase⟩,⟨6,.textOnly .lateStores⟩],none⟩) (v:=?_) rfl gK gK gK (fun _ _ _ h=>h) (Or.inl ⟨by rfl,?_⟩) (by assumption) ?_
 rotate_left
 ·(intro W hSw;(try dsimp only at hSw);have e0:=hSw.at 0;have e1:=hSw.at 1;have e2:=hSw.at 2;have e3:=hSw.at 3;have e4:=hSw.at 4;first|(go_simp;done)|(go_simp;with_reducible rfl))
 try simp only [Act.put,sA,sB,sC]
 refine wpAnyH_take (i:=8) (oi:=⟨some 7,.assign (.tmp 25),35, "law.go:122",#[⟨6,.data⟩,⟨7,.chain⟩,⟨0,.phase⟩,⟨1,.phase⟩,⟨2,.phase⟩,⟨3,.phase⟩,⟨4,.phase⟩,⟨5,.phase⟩,⟨6,.phase⟩,⟨7,.phase⟩],none⟩) (v:=?_) rfl gK gK gK (fun _ _ _ h=>h) (Or.inl ⟨by rfl,?_⟩) (by assumption) ?_
 rotate_left
 ·(intro W hSw;(try dsimp only at hSw);have e0:=hSw.at 0;have e1:=hSw.at 1;have e2:=hSw.at 2;have e3:=hSw.at 3;have e4:=hSw.at 4;first|(go_simp;done)|(go_simp;with_reducible rfl))
 try simp only [Act.put,sA,sB,sC]
 refine wpAnyH_done gK ?_ _
 have d5:=z0a d4 b5
 have A5:=A3.later d5
 have T5:Hid (TbW w5 t ⟨co2,ko2,uo2,xo2,cc2,kc2,uc2,xc2⟩):=T3.out.later d5
 clear OWN FITx
 by_cases hE:E=0
 case neg =>
  have hA0:=HN.out hE
  rw [hA0]
  have hE':(E != 0)=true:=by simpa using hE
  clear hE
  go_wp2_with fail
  refine (NU _ _).mono ?_
  rintro e w6 ⟨rfl,rfl⟩
  go_wp2_with fail
  refine (KN _ B5).mono ?_
  rintro e w7 ⟨rfl,b7⟩
  go_wp2
  go_ret
  exact ⟨rfl,z0a B5 b7⟩
 have hAl:=HL.out hE
 rw [HM.out] at hAl
 have HKi:=HK.out hE
 have FITz:=FITy hE
 subst hE
 rw [hAl] at FITz SAM ⊢
 have HAm:Hid (A.length=m):=hAl
 have hm47:m≤140737488351232:=by have:=HAl.out;omega
 clear hAl FITy HL HN HK
 have z0:=X5.at 0
 have z1:=X5.at 1
 have z2:=X5.at 2
 have z3:=X5.at 3
 have z4:=X5.at 4
 go_wp2_with fail
 refine (NU _ _).mono ?_
 rintro e w6 ⟨rfl,rfl⟩
 go_wp2_with fail
 refine (FITz _ _ _ B5 T5.out V5).mono ?_
 rintro e w7 ⟨⟨bo,bc,rfl,V7⟩,b7⟩
 have B7:=z0a B5 b7
 have A7:=A5.later b7
 have V5b:=V5.later b7
 clear z0 z1 z2 z3 z4 FITz
 go_wp2_with fail
 refine (NU _ _).mono ?_
 rintro e w8 ⟨rfl,rfl⟩
 go_wp2_with fail
 refine (SAM _ _ _ _ _ V5b V7).mono ?_
 rintro e w8 ⟨rfl,b8⟩
 have B8:=z0a B7 b8
 have A8:=A7.later b8
 have HV8:Hid (Vs w8 ao A):=V5b.later b8
 have z1:=A8.at 1
 clear V7 V5b V5 X5 A5 A7 SAM
 go_wp2_with fail
 go_loopw [10] (fun r wr=>∃ i:Nat,r=.int .i64 (i:Int)∧i≤m∧Below w8.heap.size w8 wr) (fun r _=>m - (intOf r).toNat)
 case atStart=>exact ⟨0,rfl,Nat.zero_le _,Below.refl _ _⟩
 case round =>
  clear z1
  obtain ⟨i,rfl,hi,B9a⟩:=hrel
  have A9:=A8.later B9a
  have z1:=A9.at 1
  by_cases hlt:i<m
  ·have hlt':(i:Int)<(m:Int):=by omega
   have i0:(0:Int)≤(i:Int):=by omega
   have hil:i<A.length:=by rw [HAm.out];exact hlt
   have hic:i<t.cs.length:=by rw [HM.out];exact hlt
   have hki:=HKi i hil hic
   obtain ⟨ab,af,rfl,hav⟩:=HV8.out (by omega)
   have AV:=(hav i hil).later B9a
   obtain ⟨cb,cf,rfl,hcv⟩:=HCw.out (by omega)
   obtain ⟨c0,c1,c2,c3⟩:=((hcv i hic).later B8).later B9a
   clear hav hcv
   generalize A[i]=a at *
   generalize t.cs[i]=c at *
   obtain ⟨ak,an,am,aB⟩:=a
   obtain ⟨cn,ck,cs,cm⟩:=c
   simp only at hki c0 c1 c2 c3 z1
   generalize ByteArray.mk cn.toArray=CB at *
   have u9:Below wr.heap.size wr (wr.alloc (.cells #[.string CB,.int .i64 ck,.int .i64 cs,.bool cm] 42)):=(Below.refl _ _).alloc (Nat.le_refl _) _
   have C9:Cbox (wr.alloc (.cells #[.string CB,.int .i64 ck,.int .i64 cs,.bool cm] 42)) wr.heap.size #[.string CB,.int .i64 ck,.int .i64 cs,.bool cm] 42:=Cbox.new wr _ _
   have B9:=z0a B9a u9
   have AV9:=AV.later u9
   go_upto_region 14 with fail
   generalize wr.alloc (.cells #[.string CB,.int .i64 ck,.int .i64 cs,.bool cm] 42)=w9 at *
   generalize wr.heap.size=pc at *
   have KR:Hid (∀ W,Below w9.heap.size w9 W→At4 W ab (af+i*4) ⟨ak,an,am,aB⟩∧Cbox W pc #[.string CB,.int .i64 ck,.int .i64 cs,.bool cm] 42):=fun W h=>⟨AV9.later h,C9.later h⟩
   clear c0 c1 c2 c3 z1 u9 AV AV9 C9
   by_cases hk0:ak=0
   ·have hcm:=hki.2.1 hk0
    subst hk0 hcm
    clear hki
    refine wp_region_held_drew (S:=(fun W=>At4 W ab (af+i*4) ⟨0,an,am,aB⟩∧Cbox W pc #[.string CB,.int .i64 ck,.int .i64 cs,.bool false] 42)) gK ?_ (fun hHeld=>?_)
    ·((try dsimp only);exact KR.out _ ((Below.refl _ w9).drew))
    refine wpAnyH_take (i:=0) (oi:=agO0) (v:=?_) rfl gK gK gK (fun _ _ _ h=>h) (Or.inl ⟨by rfl,?_⟩) (by assumption) ?_
    rotate_left
    ·(intro W hSw;(try dsimp only at hSw);try simp only [agO0];first|(go_simp;done)|(go_simp;with_reducible rfl))
    try simp only [agO0,Act.put,List.setIfInBounds_toArray,List.set_cons_zero,List.set_cons_succ]
    refine wpAnyH_take (i:=1) (oi:=agO1) (v:=?_) rfl gK gK gK (fun _ _ _ h=>h) (Or.inl ⟨by rfl,?_⟩) (by assumption) ?_
    rotate_left
    ·(intro W hSw;(try dsimp only at hSw);try simp only [agO1];first|(go_simp;done)|(go_simp;with_reducible rfl))
    try simp only [agO1,Act.put,List.setIfInBounds_toArray,List.set_cons_zero,List.set_cons_succ]
    refine wpAnyH_take (i:=2) (oi:=agO2) (v:=?_) rfl gK gK gK (fun _ _ _ h=>h) (Or.inl ⟨by rfl,?_⟩) (by assumption) ?_
    rotate_left
    ·(intro W hSw;(try dsimp only at hSw);try simp only [agO2];first|(go_simp;done)|(go_simp;with_reducible rfl))
    try simp only [agO2,Act.put,List.setIfInBounds_toArray,List.set_cons_zero,List.set_cons_succ]
    refine wpAnyH_take (i:=3) (oi:=agO3) (v:=?_) rfl gK gK gK (fun _ _ _ h=>h) (Or.inl ⟨by rfl,?_⟩) (by assumption) ?_
    rotate_left
    ·(intro W hSw;(try dsimp only at hSw);try simp only [agO3];first|(go_simp;done)|(go_simp;with_reducible rfl))
    try simp only [agO3,Act.put,List.setIfInBounds_toArray,List.set_cons_zero,List.set_cons_succ]
    refine wpAnyH_take (i:=4) (oi:=agO4) (v:=?_) rfl gK gK gK (fun _ _ _ h=>h) (Or.inl ⟨by rfl,?_⟩) (by assumption) ?_
    rotate_left
    ·(intro W hSw;(try dsimp only at hSw);obtain ⟨g1,g2⟩:=hSw;obtain ⟨h0,h1,h2,h3⟩:=g1;have e0:=g2.at 0;have e1:=g2.at 1;have e2:=g2.at 2;have e3:=g2.at 3;clear g2;simp only at h0 h1 h2 h3;try simp only [agO4];first|(go_simp;done)|(go_simp;with_reducible rfl))
    try simp only [agO4,Act.put,List.setIfInBounds_toArray,List.set_cons_zero,List.set_cons_succ]
    refine wpAnyH_take (i:=5) (oi:=agO5) (v:=?_) rfl gK gK gK (fun _ _ _ h=>h) (Or.inl ⟨by rfl,?_⟩) (by assumption) ?_
    rotate_left
    ·(intro W hSw;(try dsimp only at hSw);try simp only [agO5];first|(go_simp;done)|(go_simp;with_reducible rfl))
    try simp only [agO5,Act.put,List.setIfInBounds_toArray,List.set_cons_zero,List.set_cons_succ]
    refine wpAnyH_take (i:=6) (oi:=agO6) (v:=?_) rfl gK gK gK (fun _ _ _ h=>h) (Or.inl ⟨by rfl,?_⟩) (by assumption) ?_
    rotate_left
    ·(intro W hSw;(try dsimp only at hSw);try simp only [agO6];first|(go_simp;done)|(go_simp;with_reducible rfl))
    try simp only [agO6,Act.put,List.setIfInBounds_toArray,List.set_cons_zero,List.set_cons_succ]
    refine wpAnyH_take (i:=7) (oi:=agO7) (v:=undef) rfl gK gK gK (fun _ _ _ h=>h) (Or.inr ⟨by rfl,rfl⟩) (by assumption) ?_
    try simp only [agO7,Act.put,List.setIfInBounds_toArray,List.set_cons_zero,List.set_cons_succ]
    refine wpAnyH_take (i:=8) (oi:=agO8) (v:=undef) rfl gK gK gK (fun _ _ _ h=>h) (Or.inr ⟨by rfl,rfl⟩) (by assumption) ?_
    try simp only [agO8,Act.put,List.setIfInBounds_toArray,List.set_cons_zero,List.set_cons_succ]
    refine wpAnyH_take (i:=9) (oi:=agO9) (v:=undef) rfl gK gK gK (fun _ _ _ h=>h) (Or.inr ⟨by rfl,rfl⟩) (by assumption) ?_
    try simp only [agO9,Act.put,List.setIfInBounds_toArray,List.set_cons_zero,List.set_cons_succ]
    refine wpAnyH_take (i:=10) (oi:=agO10) (v:=undef) rfl gK gK gK (fun _ _ _ h=>h) (Or.inr ⟨by rfl,rfl⟩) (by assumption) ?_
    try simp only [agO10,Act.put,List.setIfInBounds_toArray,List.set_cons_zero,List.set_cons_succ]
    refine wpAnyH_take (i:=11) (oi:=agO11) (v:=undef) rfl gK gK gK (fun _ _ _ h=>h) (Or.inr ⟨by rfl,rfl⟩) (by assumption) ?_
    try simp only [agO11,Act.put,List.setIfInBounds_toArray,List.set_cons_zero,List.set_cons_succ]
    refine wpAnyH_take (i:=12) (oi:=agO12) (v:=undef) rfl gK gK gK (fun _ _ _ h=>h) (Or.inr ⟨by rfl,rfl⟩) (by assumption) ?_
    try simp only [agO12,Act.put,List.setIfInBounds_toArray,List.set_cons_zero,List.set_cons_succ]
    refine wpAnyH_take (i:=13) (oi:=agO13) (v:=undef) rfl gK gK gK (fun _ _ _ h=>h) (Or.inr ⟨by rfl,rfl⟩) (by assumption) ?_
    try simp only [agO13,Act.put,List.setIfInBounds_toArray,List.set_cons_zero,List.set_cons_succ]
    refine wpAnyH_take (i:=14) (oi:=agO14) (v:=undef) rfl gK gK gK (fun _ _ _ h=>h) (Or.inr ⟨by rfl,rfl⟩) (by assumption) ?_
    try simp only [agO14,Act.put,List.setIfInBounds_toArray,List.set_cons_zero,List.set_cons_succ]
    refine wpAnyH_take (i:=15) (oi:=agO15) (v:=?_) rfl gK gK gK (fun _ _ _ h=>h) (Or.inl ⟨by rfl,?_⟩) (by assumption) ?_
    rotate_left
    ·(intro W hSw;(try dsimp only at hSw);try simp only [agO15];first|(go_simp;done)|(go_simp;with_reducible rfl))
    try simp only [agO15,Act.put,List.setIfInBounds_toArray,List.set_cons_zero,List.set_cons_succ]
    refine wpAnyH_take (i:=16) (oi:=agO16) (v:=?_) rfl gK gK gK (fun _ _ _ h=>h) (Or.inl ⟨by rfl,?_⟩) (by assumption) ?_
    rotate_left
    ·(intro W hSw;(try dsimp only at hSw);try simp only [agO16];first|(go_simp;done)|(go_simp;with_reducible rfl))
    try simp only [agO16,Act.put,List.setIfInBounds_toArray,List.set_cons_zero,List.set_cons_succ]
    refine wpAnyH_take (i:=17) (oi:=agO17) (v:=?_) rfl gK gK gK (fun _ _ _ h=>h) (Or.inl ⟨by rfl,?_⟩) (by assumption) ?_
    rotate_left
    ·(intro W hSw;(try dsimp only at hSw);try simp only [agO17];first|(go_simp;done)|(go_simp;with_reducible rfl))
    try simp only [agO17,Act.put,List.setIfInBounds_toArray,List.set_cons_zero,List.set_cons_succ]
    refine wpAnyH_take (i:=18) (oi:=agO18) (v:=?_) rfl gK gK gK (fun _ _ _ h=>h) (Or.inl ⟨by rfl,?_⟩) (by assumption) ?_
    rotate_left
    ·(intro W hSw;(try dsimp only at hSw);try simp only [agO18];first|(go_simp;done)|(go_simp;with_reducible rfl))
    try simp only [agO18,Act.put,List.setIfInBounds_toArray,List.set_cons_zero,List.set_cons_succ]
    refine wpAnyH_take (i:=19) (oi:=agO19) (v:=?_) rfl gK gK gK (fun _ _ _ h=>h) (Or.inl ⟨by rfl,?_⟩) (by assumption) ?_
    rotate_left
    ·(intro W hSw;(try dsimp only at hSw);try simp only [agO19];first|(go_simp;done)|(go_simp;with_reducible rfl))
    try simp only [agO19,Act.put,List.setIfInBounds_toArray,List.set_cons_zero,List.set_cons_succ]
    refine wpAnyH_take (i:=20) (oi:=agO20) (v:=?_) rfl gK gK gK (fun _ _ _ h=>h) (Or.inl ⟨by rfl,?_⟩) (by assumption) ?_
    rotate_left
    ·(intro W hSw;(try dsimp only at hSw);try simp only [agO20];first|(go_simp;done)|(go_simp;with_reducible rfl))
    try simp only [agO20,Act.put,List.setIfInBounds_toArray,List.set_cons_zero,List.set_cons_succ]
    refine wpAnyH_take (i:=21) (oi:=agO21) (v:=?_) rfl gK gK gK (fun _ _ _ h=>h) (Or.inl ⟨by rfl,?_⟩) (by assumption) ?_
    rotate_left
    ·(intro W hSw;(try dsimp only at hSw);obtain ⟨g1,g2⟩:=hSw;obtain ⟨h0,h1,h2,h3⟩:=g1;have e0:=g2.at 0;have e1:=g2.at 1;have e2:=g2.at 2;have e3:=g2.at 3;clear g2;simp only at h0 h1 h2 h3;try simp only [agO21];first|(go_simp;done)|(go_simp;with_reducible rfl))
    try simp only [agO21,Act.put,List.setIfInBounds_toArray,List.set_cons_zero,List.set_cons_succ]
    refine wpAnyH_take (i:=22) (oi:=agO22) (v:=?_) rfl gK gK gK (fun _ _ _ h=>h) (Or.inl ⟨by rfl,?_⟩) (by assumption) ?_
    rotate_left
    ·(intro W hSw;(try dsimp only at hSw);try simp only [agO22];first|(go_simp;done)|(go_simp;with_reducible rfl))
    try simp only [agO22,Act.put,List.setIfInBounds_toArray,List.set_cons_zero,List.set_cons_succ]
    refine wpAnyH_take (i:=23) (oi:=agO23) (v:=?_) rfl gK gK gK (fun _ _ _ h=>h) (Or.inl ⟨by rfl,?_⟩) (by assumption) ?_
    rotate_left
    ·(intro W hSw;(try dsimp only at hSw);try simp only [agO23];first|(go_simp;done)|(go_simp;with_reducible rfl))
    try simp only [agO23,Act.put,List.setIfInBounds_toArray,List.set_cons_zero,List.set_cons_succ]
    refine wpAnyH_take (i:=24) (oi:=agO24) (v:=?_) rfl gK gK gK (fun _ _ _ h=>h) (Or.inl ⟨by rfl,?_⟩) (by assumption) ?_
    rotate_left
    ·(intro W hSw;(try dsimp only at hSw);try simp only [agO24];first|(go_simp;done)|(go_simp;with_reducible rfl))
    try simp only [agO24,Act.put,List.setIfInBounds_toArray,List.set_cons_zero,List.set_cons_succ]
    refine wpAnyH_take (i:=25) (oi:=agO25) (v:=?_) rfl gK gK gK (fun _ _ _ h=>h) (Or.inl ⟨by rfl,?_⟩) (by assumption) ?_
    rotate_left
    ·(intro W hSw;(try dsimp only at hSw);obtain ⟨g1,g2⟩:=hSw;obtain ⟨h0,h1,h2,h3⟩:=g1;have e0:=g2.at 0;have e1:=g2.at 1;have e2:=g2.at 2;have e3:=g2.at 3;clear g2;simp only at h0 h1 h2 h3;try simp only [agO25];first|(go_simp;done)|(go_simp;with_reducible rfl))
    try simp only [agO25,Act.put,List.setIfInBounds_toArray,List.set_cons_zero,List.set_cons_succ]
    refine wpAnyH_take (i:=26) (oi:=agO26) (v:=?_) rfl gK gK gK (fun _ _ _ h=>h) (Or.inl ⟨by rfl,?_⟩) (by assumption) ?_
    rotate_left
    ·(intro W hSw;(try dsimp only at hSw);try simp only [agO26];first|(go_simp;done)|(go_simp;with_reducible rfl))
    try simp only [agO26,Act.put,List.setIfInBounds_toArray,List.set_cons_zero,List.set_cons_succ]
    refine wpAnyH_take (i:=27) (oi:=agO27) (v:=?_) rfl gK gK gK (fun _ _ _ h=>h) (Or.inl ⟨by rfl,?_⟩) (by assumption) ?_
    rotate_left
    ·(intro W hSw;(try dsimp only at hSw);try simp only [agO27];first|(go_simp;done)|(go_simp;with_reducible rfl))
    try simp only [agO27,Act.put,List.setIfInBounds_toArray,List.set_cons_zero,List.set_cons_succ]
    refine wpAnyH_take (i:=28) (oi:=agO28) (v:=?_) rfl gK gK gK (fun _ _ _ h=>h) (Or.inl ⟨by rfl,?_⟩) (by assumption) ?_
    rotate_left
    ·(intro W hSw;(try dsimp only at hSw);try simp only [agO28];first|(go_simp;done)|(go_simp;with_reducible rfl))
    try simp only [agO28,Act.put,List.setIfInBounds_toArray,List.set_cons_zero,List.set_cons_succ]
    refine wpAnyH_take (i:=29) (oi:=agO29) (v:=?_) rfl gK gK gK (fun _ _ _ h=>h) (Or.inl ⟨by rfl,?_⟩) (by assumption) ?_
    rotate_left
    ·(intro W hSw;(try dsimp only at hSw);try simp only [agO29];first|(go_simp;done)|(go_simp;with_reducible rfl))
    try simp only [agO29,Act.put,List.setIfInBounds_toArray,List.set_cons_zero,List.set_cons_succ]
    refine wpAnyH_take (i:=30) (oi:=agO30) (v:=?_) rfl gK gK gK (fun _ _ _ h=>h) (Or.inl ⟨by rfl,?_⟩) (by assumption) ?_
    rotate_left
    ·(intro W hSw;(try dsimp only at hSw);try simp only [agO30];first|(go_simp;done)|(go_simp;with_reducible rfl))
    try simp only [agO30,Act.put,List.setIfInBounds_toArray,List.set_cons_zero,List.set_cons_succ]
    refine wpAnyH_take (i:=31) (oi:=agO31) (v:=?_) rfl gK gK gK (fun _ _ _ h=>h) (Or.inl ⟨by rfl,?_⟩) (by assumption) ?_
    rotate_left
    ·(intro W hSw;(try dsimp only at hSw);try simp only [agO31];first|(go_simp;done)|(go_simp;with_reducible rfl))
    try simp only [agO31,Act.put,List.setIfInBounds_toArray,List.set_cons_zero,List.set_cons_succ]
    refine wpAnyH_take (i:=32) (oi:=agO32) (v:=?_) rfl gK gK gK (fun _ _ _ h=>h) (Or.inl ⟨by rfl,?_⟩) (by assumption) ?_
    rotate_left
    ·(intro W hSw;(try dsimp only at hSw);try simp only [agO32];first|(go_simp;done)|(go_simp;with_reducible rfl))
    try simp only [agO32,Act.put,List.setIfInBounds_toArray,List.set_cons_zero,List.set_cons_succ]
    refine wpAnyH_take (i:=33) (oi:=agO33) (v:=?_) rfl gK gK gK (fun _ _ _ h=>h) (Or.inl ⟨by rfl,?_⟩) (by assumption) ?_
    rotate_left
    ·(intro W hSw;(try dsimp only at hSw);obtain ⟨g1,g2⟩:=hSw;obtain ⟨h0,h1,h2,h3⟩:=g1;have e0:=g2.at 0;have e1:=g2.at 1;have e2:=g2.at 2;have e3:=g2.at 3;clear g2;simp only at h0 h1 h2 h3;try simp only [agO33];first|(go_simp;done)|(go_simp;with_reducible rfl))
    try simp only [agO33,Act.put,List.setIfInBounds_toArray,List.set_cons_zero,List.set_cons_succ]
    refine wpAnyH_take (i:=34) (oi:=agO34) (v:=?_) rfl gK gK gK (fun _ _ _ h=>h) (Or.inl ⟨by rfl,?_⟩) (by assumption) ?_
    rotate_left
    ·(intro W hSw;(try dsimp only at hSw);try simp only [agO34];first|(go_simp;done)|(go_simp;with_reducible rfl))
    try simp only [agO34,Act.put,List.setIfInBounds_toArray,List.set_cons_zero,List.set_cons_succ]
    refine wpAnyH_take (i:=35) (oi:=agO35) (v:=?_) rfl gK gK gK (fun _ _ _ h=>h) (Or.inl ⟨by rfl,?_⟩) (by assumption) ?_
    rotate_left
    ·(intro W hSw;(try dsimp only at hSw);try simp only [agO35];first|(go_simp;done)|(go_simp;with_reducible rfl))
    try simp only [agO35,Act.put,List.setIfInBounds_toArray,List.set_cons_zero,List.set_cons_succ]
    refine wpAnyH_take (i:=36) (oi:=agO36) (v:=undef) rfl gK gK gK (fun _ _ _ h=>h) (Or.inr ⟨by rfl,rfl⟩) (by assumption) ?_
    try simp only [agO36,Act.put,List.setIfInBounds_toArray,List.set_cons_zero,List.set_cons_succ]
    refine wpAnyH_take (i:=37) (oi:=agO37) (v:=undef) rfl gK gK gK (fun _ _ _ h=>h) (Or.inr ⟨by rfl,rfl⟩) (by assumption) ?_
    try simp only [agO37,Act.put,List.setIfInBounds_toArray,List.set_cons_zero,List.set_cons_succ]
    refine wpAnyH_take (i:=38) (oi:=agO38) (v:=undef) rfl gK gK gK (fun _ _ _ h=>h) (Or.inr ⟨by rfl,rfl⟩) (by assumption) ?_
    try simp only [agO38,Act.put,List.setIfInBounds_toArray,List.set_cons_zero,List.set_cons_succ]
    refine wpAnyH_take (i:=39) (oi:=agO39) (v:=undef) rfl gK gK gK (fun _ _ _ h=>h) (Or.inr ⟨by rfl,rfl⟩) (by assumption) ?_
    try simp only [agO39,Act.put,List.setIfInBounds_toArray,List.set_cons_zero,List.set_cons_succ]
    refine wpAnyH_take (i:=40) (oi:=agO40) (v:=undef) rfl gK gK gK (fun _ _ _ h=>h) (Or.inr ⟨by rfl,rfl⟩) (by assumption) ?_
    try simp only [agO40,Act.put,List.setIfInBounds_toArray,List.set_cons_zero,List.set_cons_succ]
    refine wpAnyH_take (i:=41) (oi:=agO41) (v:=undef) rfl gK gK gK (fun _ _ _ h=>h) (Or.inr ⟨by rfl,rfl⟩) (by assumption) ?_
    try simp only [agO41,Act.put,List.setIfInBounds_toArray,List.set_cons_zero,List.set_cons_succ]
    refine wpAnyH_take (i:=42) (oi:=agO42) (v:=undef) rfl gK gK gK (fun _ _ _ h=>h) (Or.inr ⟨by rfl,rfl⟩) (by assumption) ?_
    try simp only [agO42,Act.put,List.setIfInBounds_toArray,List.set_cons_zero,List.set_cons_succ]
    refine wpAnyH_take (i:=43) (oi:=agO43) (v:=undef) rfl gK gK gK (fun _ _ _ h=>h) (Or.inr ⟨by rfl,rfl⟩) (by assumption) ?_
    try simp only [agO43,Act.put,List.setIfInBounds_toArray,List.set_cons_zero,List.set_cons_succ]
    refine wpAnyH_take (i:=44) (oi:=agO44) (v:=?_) rfl gK gK gK (fun _ _ _ h=>h) (Or.inl ⟨by rfl,?_⟩) (by assumption) ?_
    rotate_left
    ·(intro W hSw;(try dsimp only at hSw);try simp only [agO44];first|(go_simp;done)|(go_simp;with_reducible rfl))
    try simp only [agO44,Act.put,List.setIfInBounds_toArray,List.set_cons_zero,List.set_cons_succ]
    refine wpAnyH_take (i:=45) (oi:=agO45) (v:=?_) rfl gK gK gK (fun _ _ _ h=>h) (Or.inl ⟨by rfl,?_⟩) (by assumption) ?_
    rotate_left
    ·(intro W hSw;(try dsimp only at hSw);try simp only [agO45];first|(go_simp;done)|(go_simp;with_reducible rfl))
    try simp only [agO45,Act.put,List.setIfInBounds_toArray,List.set_cons_zero,List.set_cons_succ]
    refine wpAnyH_done gK ?_ _
    go_wp2
    go_roundw
    case rel=>exact ⟨i+1,by go_num,by omega,B9.drew⟩
    case measure=>simp [intOf];omega
   ·by_cases hk2:ak=2
    ·have hcs:=hki.2.2 hk2
     have hck:ck=2:=by rcases hki.1 with h|h <;> omega
     subst hk2 hcs hck
     clear hki hk0
     refine wp_region_held_drew (S:=(fun W=>At4 W ab (af+i*4) ⟨2,an,am,aB⟩∧Cbox W pc #[.string CB,.int .i64 2,.int .i64 am,.bool cm] 42)) gK ?_ (fun hHeld=>?_)
     ·((try dsimp only);exact KR.out _ ((Below.refl _ w9).drew))
     refine wpAnyH_take (i:=0) (oi:=agO0) (v:=?_) rfl gK gK gK (fun _ _ _ h=>h) (Or.inl ⟨by rfl,?_⟩) (by assumption) ?_
     rotate_left
     ·(intro W hSw;(try dsimp only at hSw);try simp only [agO0];first|(go_simp;done)|(go_simp;with_reducible rfl))
     try simp only [agO0,Act.put,List.setIfInBounds_toArray,List.set_cons_zero,List.set_cons_succ]
     refine wpAnyH_take (i:=1) (oi:=agO1) (v:=?_) rfl gK gK gK (fun _ _ _ h=>h) (Or.inl ⟨by rfl,?_⟩) (by assumption) ?_
     rotate_left
     ·(intro W hSw;(try dsimp only at hSw);try simp only [agO1];first|(go_simp;done)|(go_simp;with_reducible rfl))
     try simp only [agO1,Act.put,List.setIfInBounds_toArray,List.set_cons_zero,List.set_cons_succ]
     refine wpAnyH_take (i:=2) (oi:=agO2) (v:=?_) rfl gK gK gK (fun _ _ _ h=>h) (Or.inl ⟨by rfl,?_⟩) (by assumption) ?_
     rotate_left
     ·(intro W hSw;(try dsimp only at hSw);try simp only [agO2];first|(go_simp;done)|(go_simp;with_reducible rfl))
     try simp only [agO2,Act.put,List.setIfInBounds_toArray,List.set_cons_zero,List.set_cons_succ]
     refine wpAnyH_take (i:=3) (oi:=agO3) (v:=?_) rfl gK gK gK (fun _ _ _ h=>h) (Or.inl ⟨by rfl,?_⟩) (by assumption) ?_
     rotate_left
     ·(intro W hSw;(try dsimp only at hSw);try simp only [agO3];first|(go_simp;done)|(go_simp;with_reducible rfl))
     try simp only [agO3,Act.put,List.setIfInBounds_toArray,List.set_cons_zero,List.set_cons_succ]
     refine wpAnyH_take (i:=4) (oi:=agO4) (v:=?_) rfl gK gK gK (fun _ _ _ h=>h) (Or.inl ⟨by rfl,?_⟩) (by assumption) ?_
     rotate_left
     ·(intro W hSw;(try dsimp only at hSw);obtain ⟨g1,g2⟩:=hSw;obtain ⟨h0,h1,h2,h3⟩:=g1;have e0:=g2.at 0;have e1:=g2.at 1;have e2:=g2.at 2;have e3:=g2.at 3;clear g2;simp only at h0 h1 h2 h3;try simp only [agO4];first|(go_simp;done)|(go_simp;with_reducible rfl))
     try simp only [agO4,Act.put,List.setIfInBounds_toArray,List.set_cons_zero,List.set_cons_succ]
     refine wpAnyH_take (i:=5) (oi:=agO5) (v:=?_) rfl gK gK gK (fun _ _ _ h=>h) (Or.inl ⟨by rfl,?_⟩) (by assumption) ?_
     rotate_left
     ·(intro W hSw;(try dsimp only at hSw);try simp only [agO5];first|(go_simp;done)|(go_simp;with_reducible rfl))
     try simp only [agO5,Act.put,List.setIfInBounds_toArray,List.set_cons_zero,List.set_cons_succ]
     refine wpAnyH_take (i:=6) (oi:=agO6) (v:=?_) rfl gK gK gK (fun _ _ _ h=>h) (Or.inl ⟨by rfl,?_⟩) (by assumption) ?_
     rotate_left
     ·(intro W hSw;(try dsimp only at hSw);try simp only [agO6];first|(go_simp;done)|(go_simp;with_reducible rfl))
     try simp only [agO6,Act.put,List.setIfInBounds_toArray,List.set_cons_zero,List.set_cons_succ]
     refine wpAnyH_take (i:=7) (oi:=agO7) (v:=?_) rfl gK gK gK (fun _ _ _ h=>h) (Or.inl ⟨by rfl,?_⟩) (by assumption) ?_
     rotate_left
     ·(intro W hSw;(try dsimp only at hSw);try simp only [agO7];first|(go_simp;done)|(go_simp;with_reducible rfl))
     try simp only [agO7,Act.put,List.setIfInBounds_toArray,List.set_cons_zero,List.set_cons_succ]
     refine wpAnyH_take (i:=8) (oi:=agO8) (v:=?_) rfl gK gK gK (fun _ _ _ h=>h) (Or.inl ⟨by rfl,?_⟩) (by assumption) ?_
     rotate_left
     ·(intro W hSw;(try dsimp only at hSw);try simp only [agO8];first|(go_simp;done)|(go_simp;with_reducible rfl))
     try simp only [agO8,Act.put,List.setIfInBounds_toArray,List.set_cons_zero,List.set_cons_succ]
     refine wpAnyH_take (i:=9) (oi:=agO9) (v:=?_) rfl gK gK gK (fun _ _ _ h=>h) (Or.inl ⟨by rfl,?_⟩) (by assumption) ?_
     rotate_left
     ·(intro W hSw;(try dsimp only at hSw);try simp only [agO9];first|(go_simp;done)|(go_simp;with_reducible rfl))
     try simp only [agO9,Act.put,List.setIfInBounds_toArray,List.set_cons_zero,List.set_cons_succ]
     refine wpAnyH_take (i:=10) (oi:=agO10) (v:=?_) rfl gK gK gK (fun _ _ _ h=>h) (Or.inl ⟨by rfl,?_⟩) (by assumption) ?_
     rotate_left
     ·(intro W hSw;(try dsimp only at hSw);try simp only [agO10];first|(go_simp;done)|(go_simp;with_reducible rfl))
     try simp only [agO10,Act.put,List.setIfInBounds_toArray,List.set_cons_zero,List.set_cons_succ]
     refine wpAnyH_take (i:=11) (oi:=agO11) (v:=?_) rfl gK gK gK (fun _ _ _ h=>h) (Or.inl ⟨by rfl,?_⟩) (by assumption) ?_
     rotate_left
     ·(intro W hSw;(try dsimp only at hSw);obtain ⟨g1,g2⟩:=hSw;obtain ⟨h0,h1,h2,h3⟩:=g1;have e0:=g2.at 0;have e1:=g2.at 1;have e2:=g2.at 2;have e3:=g2.at 3;clear g2;simp only at h0 h1 h2 h3;try simp only [agO11];first|(go_simp;done)|(go_simp;with_reducible rfl))
     try simp only [agO11,Act.put,List.setIfInBounds_toArray,List.set_cons_zero,List.set_cons_succ]
     refine wpAnyH_take (i:=12) (oi:=agO12) (v:=?_) rfl gK gK gK (fun _ _ _ h=>h) (Or.inl ⟨by rfl,?_⟩) (by assumption) ?_
     rotate_left
     ·(intro W hSw;(try dsimp only at hSw);try simp only [agO12];first|(go_simp;done)|(go_simp;with_reducible rfl))
     try simp only [agO12,Act.put,List.setIfInBounds_toArray,List.set_cons_zero,List.set_cons_succ]
     refine wpAnyH_take (i:=13) (oi:=agO13) (v:=?_) rfl gK gK gK (fun _ _ _ h=>h) (Or.inl ⟨by rfl,?_⟩) (by assumption) ?_
     rotate_left
     ·(intro W hSw;(try dsimp only at hSw);obtain ⟨g1,g2⟩:=hSw;obtain ⟨h0,h1,h2,h3⟩:=g1;have e0:=g2.at 0;have e1:=g2.at 1;have e2:=g2.at 2;have e3:=g2.at 3;clear g2;simp only at h0 h1 h2 h3;try simp only [agO13];first|(go_simp;done)|(go_simp;with_reducible rfl))
     try simp only [agO13,Act.put,List.setIfInBounds_toArray,List.set_cons_zero,List.set_cons_succ]
     refine wpAnyH_take (i:=14) (oi:=agO14) (v:=?_) rfl gK gK gK (fun _ _ _ h=>h) (Or.inl ⟨by rfl,?_⟩) (by assumption) ?_
     rotate_left
     ·(intro W hSw;(try dsimp only at hSw);try simp only [agO14];first|(go_simp;done)|(go_simp;with_reducible rfl))
     try simp only [agO14,Act.put,List.setIfInBounds_toArray,List.set_cons_zero,List.set_cons_succ]
     refine wpAnyH_take (i:=15) (oi:=agO15) (v:=?_) rfl gK gK gK (fun _ _ _ h=>h) (Or.inl ⟨by rfl,?_⟩) (by assumption) ?_
     rotate_left
     ·(intro W hSw;(try dsimp only at hSw);try simp only [agO15];first|(go_simp;done)|(go_simp;with_reducible rfl))
     try simp only [agO15,Act.put,List.setIfInBounds_toArray,List.set_cons_zero,List.set_cons_succ]
     refine wpAnyH_take (i:=16) (oi:=agO16) (v:=?_) rfl gK gK gK (fun _ _ _ h=>h) (Or.inl ⟨by rfl,?_⟩) (by assumption) ?_
     rotate_left
     ·(intro W hSw;(try dsimp only at hSw);try simp only [agO16];first|(go_simp;done)|(go_simp;with_reducible rfl))
     try simp only [agO16,Act.put,List.setIfInBounds_toArray,List.set_cons_zero,List.set_cons_succ]
     refine wpAnyH_take (i:=17) (oi:=agO17) (v:=?_) rfl gK gK gK (fun _ _ _ h=>h) (Or.inl ⟨by rfl,?_⟩) (by assumption) ?_
     rotate_left
     ·(intro W hSw;(try dsimp only at hSw);try simp only [agO17];first|(go_simp;done)|(go_simp;with_reducible rfl))
     try simp only [agO17,Act.put,List.setIfInBounds_toArray,List.set_cons_zero,List.set_cons_succ]
     refine wpAnyH_take (i:=18) (oi:=agO18) (v:=?_) rfl gK gK gK (fun _ _ _ h=>h) (Or.inl ⟨by rfl,?_⟩) (by assumption) ?_
     rotate_left
     ·(intro W hSw;(try dsimp only at hSw);try simp only [agO18];first|(go_simp;done)|(go_simp;with_reducible rfl))
     try simp only [agO18,Act.put,List.setIfInBounds_toArray,List.set_cons_zero,List.set_cons_succ]
     refine wpAnyH_take (i:=19) (oi:=agO19) (v:=?_) rfl gK gK gK (fun _ _ _ h=>h) (Or.inl ⟨by rfl,?_⟩) (by assumption) ?_
     rotate_left
     ·(intro W hSw;(try dsimp only at hSw);try simp only [agO19];first|(go_simp;done)|(go_simp;with_reducible rfl))
     try simp only [agO19,Act.put,List.setIfInBounds_toArray,List.set_cons_zero,List.set_cons_succ]
     refine wpAnyH_take (i:=20) (oi:=agO20) (v:=?_) rfl gK gK gK (fun _ _ _ h=>h) (Or.inl ⟨by rfl,?_⟩) (by assumption) ?_
     rotate_left
     ·(intro W hSw;(try dsimp only at hSw);try simp only [agO20];first|(go_simp;done)|(go_simp;with_reducible rfl))
     try simp only [agO20,Act.put,List.setIfInBounds_toArray,List.set_cons_zero,List.set_cons_succ]
     refine wpAnyH_take (i:=21) (oi:=agO21) (v:=?_) rfl gK gK gK (fun _ _ _ h=>h) (Or.inl ⟨by rfl,?_⟩) (by assumption) ?_
     rotate_left
     ·(intro W hSw;(try dsimp only at hSw);obtain ⟨g1,g2⟩:=hSw;obtain ⟨h0,h1,h2,h3⟩:=g1;have e0:=g2.at 0;have e1:=g2.at 1;have e2:=g2.at 2;have e3:=g2.at 3;clear g2;simp only at h0 h1 h2 h3;try simp only [agO21];first|(go_simp;done)|(go_simp;with_reducible rfl))
     try simp only [agO21,Act.put,List.setIfInBounds_toArray,List.set_cons_zero,List.set_cons_succ]
     refine wpAnyH_take (i:=22) (oi:=agO22) (v:=?_) rfl gK gK gK (fun _ _ _ h=>h) (Or.inl ⟨by rfl,?_⟩) (by assumption) ?_
     rotate_left
     ·(intro W hSw;(try dsimp only at hSw);try simp only [agO22];first|(go_simp;done)|(go_simp;with_reducible rfl))
     try simp only [agO22,Act.put,List.setIfInBounds_toArray,List.set_cons_zero,List.set_cons_succ]
     refine wpAnyH_take (i:=23) (oi:=agO23) (v:=?_) rfl gK gK gK (fun _ _ _ h=>h) (Or.inl ⟨by rfl,?_⟩) (by assumption) ?_
     rotate_left
     ·(intro W hSw;(try dsimp only at hSw);try simp only [agO23];first|(go_simp;done)|(go_simp;with_reducible rfl))
     try simp only [agO23,Act.put,List.setIfInBounds_toArray,List.set_cons_zero,List.set_cons_succ]
     refine wpAnyH_take (i:=24) (oi:=agO24) (v:=undef) rfl gK gK gK (fun _ _ _ h=>h) (Or.inr ⟨by rfl,rfl⟩) (by assumption) ?_
     try simp only [agO24,Act.put,List.setIfInBounds_toArray,List.set_cons_zero,List.set_cons_succ]
     refine wpAnyH_take (i:=25) (oi:=agO25) (v:=undef) rfl gK gK gK (fun _ _ _ h=>h) (Or.inr ⟨by rfl,rfl⟩) (by assumption) ?_
     try simp only [agO25,Act.put,List.setIfInBounds_toArray,List.set_cons_zero,List.set_cons_succ]
     refine wpAnyH_take (i:=26) (oi:=agO26) (v:=?_) rfl gK gK gK (fun _ _ _ h=>h) (Or.inl ⟨by rfl,?_⟩) (by assumption) ?_
     rotate_left
     ·(intro W hSw;(try dsimp only at hSw);try simp only [agO26];first|(go_simp;done)|(go_simp;with_reducible rfl))
     try simp only [agO26,Act.put,List.setIfInBounds_toArray,List.set_cons_zero,List.set_cons_succ]
     refine wpAnyH_take (i:=27) (oi:=agO27) (v:=?_) rfl gK gK gK (fun _ _ _ h=>h) (Or.inl ⟨by rfl,?_⟩) (by assumption) ?_
     rotate_left
     ·(intro W hSw;(try dsimp only at hSw);try simp only [agO27];first|(go_simp;done)|(go_simp;with_reducible rfl))
     try simp only [agO27,Act.put,List.setIfInBounds_toArray,List.set_cons_zero,List.set_cons_succ]
     refine wpAnyH_take (i:=28) (oi:=agO28) (v:=?_) rfl gK gK gK (fun _ _ _ h=>h) (Or.inl ⟨by rfl,?_⟩) (by assumption) ?_
     rotate_left
     ·(intro W hSw;(try dsimp only at hSw);try simp only [agO28];first|(go_simp;done)|(go_simp;with_reducible rfl))
     try simp only [agO28,Act.put,List.setIfInBounds_toArray,List.set_cons_zero,List.set_cons_succ]
     refine wpAnyH_take (i:=29) (oi:=agO29) (v:=?_) rfl gK gK gK (fun _ _ _ h=>h) (Or.inl ⟨by rfl,?_⟩) (by assumption) ?_
     rotate_left
     ·(intro W hSw;(try dsimp only at hSw);try simp only [agO29];first|(go_simp;done)|(go_simp;with_reducible rfl))
     try simp only [agO29,Act.put,List.setIfInBounds_toArray,List.set_cons_zero,List.set_cons_succ]
     refine wpAnyH_take (i:=30) (oi:=agO30) (v:=?_) rfl gK gK gK (fun _ _ _ h=>h) (Or.inl ⟨by rfl,?_⟩) (by assumption) ?_
     rotate_left
     ·(intro W hSw;(try dsimp only at hSw);try simp only [agO30];first|(go_simp;done)|(go_simp;with_reducible rfl))
     try simp only [agO30,Act.put,List.setIfInBounds_toArray,List.set_cons_zero,List.set_cons_succ]
     refine wpAnyH_take (i:=31) (oi:=agO31) (v:=?_) rfl gK gK gK (fun _ _ _ h=>h) (Or.inl ⟨by rfl,?_⟩) (by assumption) ?_
     rotate_left
     ·(intro W hSw;(try dsimp only at hSw);try simp only [agO31];first|(go_simp;done)|(go_simp;with_reducible rfl))
     try simp only [agO31,Act.put,List.setIfInBounds_toArray,List.set_cons_zero,List.set_cons_succ]
     refine wpAnyH_take (i:=32) (oi:=agO32) (v:=?_) rfl gK gK gK (fun _ _ _ h=>h) (Or.inl ⟨by rfl,?_⟩) (by assumption) ?_
     rotate_left
     ·(intro W hSw;(try dsimp only at hSw);try simp only [agO32];first|(go_simp;done)|(go_simp;with_reducible rfl))
     try simp only [agO32,Act.put,List.setIfInBounds_toArray,List.set_cons_zero,List.set_cons_succ]
     refine wpAnyH_take (i:=33) (oi:=agO33) (v:=?_) rfl gK gK gK (fun _ _ _ h=>h) (Or.inl ⟨by rfl,?_⟩) (by assumption) ?_
     rotate_left
     ·(intro W hSw;(try dsimp only at hSw);obtain ⟨g1,g2⟩:=hSw;obtain ⟨h0,h1,h2,h3⟩:=g1;have e0:=g2.at 0;have e1:=g2.at 1;have e2:=g2.at 2;have e3:=g2.at 3;clear g2;simp only at h0 h1 h2 h3;try simp only [agO33];first|(go_simp;done)|(go_simp;with_reducible rfl))
     try simp only [agO33,Act.put,List.setIfInBounds_toArray,List.set_cons_zero,List.set_cons_succ]
     refine wpAnyH_take (i:=34) (oi:=agO34) (v:=?_) rfl gK gK gK (fun _ _ _ h=>h) (Or.inl ⟨by rfl,?_⟩) (by assumption) ?_
     rotate_left
     ·(intro W hSw;(try dsimp only at hSw);try simp only [agO34];first|(go_simp;done)|(go_simp;with_reducible rfl))
     try simp only [agO34,Act.put,List.setIfInBounds_toArray,List.set_cons_zero,List.set_cons_succ]
     refine wpAnyH_take (i:=35) (oi:=agO35) (v:=?_) rfl gK gK gK (fun _ _ _ h=>h) (Or.inl ⟨by rfl,?_⟩) (by assumption) ?_
     rotate_left
     ·(intro W hSw;(try dsimp only at hSw);try simp only [agO35];first|(go_simp;done)|(go_simp;with_reducible rfl))
     try simp only [agO35,Act.put,List.setIfInBounds_toArray,List.set_cons_zero,List.set_cons_succ]
     refine wpAnyH_take (i:=36) (oi:=agO36) (v:=?_) rfl gK gK gK (fun _ _ _ h=>h) (Or.inl ⟨by rfl,?_⟩) (by assumption) ?_
     rotate_left
     ·(intro W hSw;(try dsimp only at hSw);try simp only [agO36];first|(go_simp;done)|(go_simp;with_reducible rfl))
     try simp only [agO36,Act.put,List.setIfInBounds_toArray,List.set_cons_zero,List.set_cons_succ]
     refine wpAnyH_take (i:=37) (oi:=agO37) (v:=?_) rfl gK gK gK (fun _ _ _ h=>h) (Or.inl ⟨by rfl,?_⟩) (by assumption) ?_
     rotate_left
     ·(intro W hSw;(try dsimp only at hSw);try simp only [agO37];first|(go_simp;done)|(go_simp;with_reducible rfl))
     try simp only [agO37,Act.put,List.setIfInBounds_toArray,List.set_cons_zero,List.set_cons_succ]
     refine wpAnyH_take (i:=38) (oi:=agO38) (v:=?_) rfl gK gK gK (fun _ _ _ h=>h) (Or.inl ⟨by rfl,?_⟩) (by assumption) ?_
     rotate_left
     ·(intro W hSw;(try dsimp only at hSw);try simp only [agO38];first|(go_simp;done)|(go_simp;with_reducible rfl))
     try simp only [agO38,Act.put,List.setIfInBounds_toArray,List.set_cons_zero,List.set_cons_succ]
     refine wpAnyH_take (i:=39) (oi:=agO39) (v:=?_) rfl gK gK gK (fun _ _ _ h=>h) (Or.inl ⟨by rfl,?_⟩) (by assumption) ?_
     rotate_left
     ·(intro W hSw;(try dsimp only at hSw);try simp only [agO39];first|(go_simp;done)|(go_simp;with_reducible rfl))
     try simp only [agO39,Act.put,List.setIfInBounds_toArray,List.set_cons_zero,List.set_cons_succ]
     refine wpAnyH_take (i:=40) (oi:=agO40) (v:=?_) rfl gK gK gK (fun _ _ _ h=>h) (Or.inl ⟨by rfl,?_⟩) (by assumption) ?_
     rotate_left
     ·(intro W hSw;(try dsimp only at hSw);obtain ⟨g1,g2⟩:=hSw;obtain ⟨h0,h1,h2,h3⟩:=g1;have e0:=g2.at 0;have e1:=g2.at 1;have e2:=g2.at 2;have e3:=g2.at 3;clear g2;simp only at h0 h1 h2 h3;try simp only [agO40];first|(go_simp;done)|(go_simp;with_reducible rfl))
     try simp only [agO40,Act.put,List.setIfInBounds_toArray,List.set_cons_zero,List.set_cons_succ]
     refine wpAnyH_take (i:=41) (oi:=agO41) (v:=?_) rfl gK gK gK (fun _ _ _ h=>h) (Or.inl ⟨by rfl,?_⟩) (by assumption) ?_
     rotate_left
     ·(intro W hSw;(try dsimp only at hSw);try simp only [agO41];first|(go_simp;done)|(go_simp;with_reducible rfl))
     try simp only [agO41,Act.put,List.setIfInBounds_toArray,List.set_cons_zero,List.set_cons_succ]
     refine wpAnyH_take (i:=42) (oi:=agO42) (v:=?_) rfl gK gK gK (fun _ _ _ h=>h) (Or.inl ⟨by rfl,?_⟩) (by assumption) ?_
     rotate_left
     ·(intro W hSw;(try dsimp only at hSw);obtain ⟨g1,g2⟩:=hSw;obtain ⟨h0,h1,h2,h3⟩:=g1;have e0:=g2.at 0;have e1:=g2.at 1;have e2:=g2.at 2;have e3:=g2.at 3;clear g2;simp only at h0 h1 h2 h3;try simp only [agO42];first|(go_simp;done)|(go_simp;with_reducible rfl))
     try simp only [agO42,Act.put,List.setIfInBounds_toArray,List.set_cons_zero,List.set_cons_succ]
     refine wpAnyH_take (i:=43) (oi:=agO43) (v:=?_) rfl gK gK gK (fun _ _ _ h=>h) (Or.inl ⟨by rfl,?_⟩) (by assumption) ?_
     rotate_left
     ·(intro W hSw;(try dsimp only at hSw);try simp only [agO43];first|(go_simp;done)|(go_simp;with_reducible rfl))
     try simp only [agO43,Act.put,List.setIfInBounds_toArray,List.set_cons_zero,List.set_cons_succ]
     refine wpAnyH_take (i:=44) (oi:=agO44) (v:=?_) rfl gK gK gK (fun _ _ _ h=>h) (Or.inl ⟨by rfl,?_⟩) (by assumption) ?_
     rotate_left
     ·(intro W hSw;(try dsimp only at hSw);try simp only [agO44];first|(go_simp;done)|(go_simp;with_reducible rfl))
     try simp only [agO44,Act.put,List.setIfInBounds_toArray,List.set_cons_zero,List.set_cons_succ]
     refine wpAnyH_take (i:=45) (oi:=agO45) (v:=?_) rfl gK gK gK (fun _ _ _ h=>h) (Or.inl ⟨by rfl,?_⟩) (by assumption) ?_
     rotate_left
     ·(intro W hSw;(try dsimp only at hSw);try simp only [agO45];first|(go_simp;done)|(go_simp;with_reducible rfl))
     try simp only [agO45,Act.put,List.setIfInBounds_toArray,List.set_cons_zero,List.set_cons_succ]
     refine wpAnyH_done gK ?_ _
     go_wp2
     go_roundw
     case rel=>exact ⟨i+1,by go_num,by omega,B9.drew⟩
     case measure=>simp [intOf];omega
    ·have hck:ck=ak:=by rcases hki.1 with h|h <;> omega
     subst hck
     have e1:(ck != 0)=true:=by simpa using hk0
     have e2:(ck==0)=false:=by simpa using hk0
     have e3:(ck==2)=false:=by simpa using hk2
     clear hki hk0 hk2
     refine wp_region_held_drew (S:=(fun W=>At4 W ab (af+i*4) ⟨ck,an,am,aB⟩∧Cbox W pc #[.string CB,.int .i64 ck,.int .i64 cs,.bool cm] 42)) gK ?_ (fun hHeld=>?_)
     ·((try dsimp only);exact KR.out _ ((Below.refl _ w9).drew))
     refine wpAnyH_take (i:=0) (oi:=agO0) (v:=?_) rfl gK gK gK (fun _ _ _ h=>h) (Or.inl ⟨by rfl,?_⟩) (by assumption) ?_
     rotate_left
     ·(intro W hSw;(try dsimp only at hSw);try simp only [agO0];first|(go_simp;done)|(go_simp;with_reducible rfl))
     try simp only [agO0,Act.put,List.setIfInBounds_toArray,List.set_cons_zero,List.set_cons_succ]
     refine wpAnyH_take (i:=1) (oi:=agO1) (v:=?_) rfl gK gK gK (fun _ _ _ h=>h) (Or.inl ⟨by rfl,?_⟩) (by assumption) ?_
     rotate_left
     ·(intro W hSw;(try dsimp only at hSw);try simp only [agO1];first|(go_simp;done)|(go_simp;with_reducible rfl))
     try simp only [agO1,Act.put,List.setIfInBounds_toArray,List.set_cons_zero,List.set_cons_succ]
     refine wpAnyH_take (i:=2) (oi:=agO2) (v:=?_) rfl gK gK gK (fun _ _ _ h=>h) (Or.inl ⟨by rfl,?_⟩) (by assumption) ?_
     rotate_left
     ·(intro W hSw;(try dsimp only at hSw);try simp only [agO2];first|(go_simp;done)|(go_simp;with_reducible rfl))
     try simp only [agO2,Act.put,List.setIfInBounds_toArray,List.set_cons_zero,List.set_cons_succ]
     refine wpAnyH_take (i:=3) (oi:=agO3) (v:=?_) rfl gK gK gK (fun _ _ _ h=>h) (Or.inl ⟨by rfl,?_⟩) (by assumption) ?_
     rotate_left
     ·(intro W hSw;(try dsimp only at hSw);try simp only [agO3];first|(go_simp;done)|(go_simp;with_reducible rfl))
     try simp only [agO3,Act.put,List.setIfInBounds_toArray,List.set_cons_zero,List.set_cons_succ]
     refine wpAnyH_take (i:=4) (oi:=agO4) (v:=?_) rfl gK gK gK (fun _ _ _ h=>h) (Or.inl ⟨by rfl,?_⟩) (by assumption) ?_
     rotate_left
     ·(intro W hSw;(try dsimp only at hSw);obtain ⟨g1,g2⟩:=hSw;obtain ⟨h0,h1,h2,h3⟩:=g1;have e0:=g2.at 0;have e1:=g2.at 1;have e2:=g2.at 2;have e3:=g2.at 3;clear g2;simp only at h0 h1 h2 h3;try simp only [agO4];first|(go_simp;done)|(go_simp;with_reducible rfl))
     try simp only [agO4,Act.put,List.setIfInBounds_toArray,List.set_cons_zero,List.set_cons_succ]
     refine wpAnyH_take (i:=5) (oi:=agO5) (v:=?_) rfl gK gK gK (fun _ _ _ h=>h) (Or.inl ⟨by rfl,?_⟩) (by assumption) ?_
     rotate_left
     ·(intro W hSw;(try dsimp only at hSw);try simp only [agO5];first|(go_simp;done)|(go_simp;with_reducible rfl))
     try simp only [agO5,Act.put,List.setIfInBounds_toArray,List.set_cons_zero,List.set_cons_succ]
     refine wpAnyH_take (i:=6) (oi:=agO6) (v:=?_) rfl gK gK gK (fun _ _ _ h=>h) (Or.inl ⟨by rfl,?_⟩) (by assumption) ?_
     rotate_left
     ·(intro W hSw;(try dsimp only at hSw);try simp only [agO6];first|(go_simp;done)|(go_simp;with_reducible rfl))
     try simp only [agO6,Act.put,List.setIfInBounds_toArray,List.set_cons_zero,List.set_cons_succ]
     refine wpAnyH_take (i:=7) (oi:=agO7) (v:=?_) rfl gK gK gK (fun _ _ _ h=>h) (Or.inl ⟨by rfl,?_⟩) (by assumption) ?_
     rotate_left
     ·(intro W hSw;(try dsimp only at hSw);try simp only [agO7];first|(go_simp;done)|(go_simp;with_reducible rfl))
     try simp only [agO7,Act.put,List.setIfInBounds_toArray,List.set_cons_zero,List.set_cons_succ]
     refine wpAnyH_take (i:=8) (oi:=agO8) (v:=?_) rfl gK gK gK (fun _ _ _ h=>h) (Or.inl ⟨by rfl,?_⟩) (by assumption) ?_
     rotate_left
     ·(intro W hSw;(try dsimp only at hSw);try simp only [agO8];first|(go_simp;done)|(go_simp;with_reducible rfl))
     try simp only [agO8,Act.put,List.setIfInBounds_toArray,List.set_cons_zero,List.set_cons_succ]
     refine wpAnyH_take (i:=9) (oi:=agO9) (v:=?_) rfl gK gK gK (fun _ _ _ h=>h) (Or.inl ⟨by rfl,?_⟩) (by assumption) ?_
     rotate_left
     ·(intro W hSw;(try dsimp only at hSw);try simp only [agO9];first|(go_simp;done)|(go_simp;with_reducible rfl))
     try simp only [agO9,Act.put,List.setIfInBounds_toArray,List.set_cons_zero,List.set_cons_succ]
     refine wpAnyH_take (i:=10) (oi:=agO10) (v:=?_) rfl gK gK gK (fun _ _ _ h=>h) (Or.inl ⟨by rfl,?_⟩) (by assumption) ?_
     rotate_left
     ·(intro W hSw;(try dsimp only at hSw);try simp only [agO10];first|(go_simp;done)|(go_simp;with_reducible rfl))
     try simp only [agO10,Act.put,List.setIfInBounds_toArray,List.set_cons_zero,List.set_cons_succ]
     refine wpAnyH_take (i:=11) (oi:=agO11) (v:=?_) rfl gK gK gK (fun _ _ _ h=>h) (Or.inl ⟨by rfl,?_⟩) (by assumption) ?_
     rotate_left
     ·(intro W hSw;(try dsimp only at hSw);obtain ⟨g1,g2⟩:=hSw;obtain ⟨h0,h1,h2,h3⟩:=g1;have e0:=g2.at 0;have e1:=g2.at 1;have e2:=g2.at 2;have e3:=g2.at 3;clear g2;simp only at h0 h1 h2 h3;try simp only [agO11];first|(go_simp;done)|(go_simp;with_reducible rfl))
     try simp only [agO11,Act.put,List.setIfInBounds_toArray,List.set_cons_zero,List.set_cons_succ]
     refine wpAnyH_take (i:=12) (oi:=agO12) (v:=?_) rfl gK gK gK (fun _ _ _ h=>h) (Or.inl ⟨by rfl,?_⟩) (by assumption) ?_
     rotate_left
     ·(intro W hSw;(try dsimp only at hSw);try simp only [agO12];first|(go_simp;done)|(go_simp;with_reducible rfl))
     try simp only [agO12,Act.put,List.setIfInBounds_toArray,List.set_cons_zero,List.set_cons_succ]
     refine wpAnyH_take (i:=13) (oi:=agO13) (v:=?_) rfl gK gK gK (fun _ _ _ h=>h) (Or.inl ⟨by rfl,?_⟩) (by assumption) ?_
     rotate_left
     ·(intro W hSw;(try dsimp only at hSw);obtain ⟨g1,g2⟩:=hSw;obtain ⟨h0,h1,h2,h3⟩:=g1;have e0:=g2.at 0;have e1:=g2.at 1;have e2:=g2.at 2;have e3:=g2.at 3;clear g2;simp only at h0 h1 h2 h3;try simp only [agO13];first|(go_simp;done)|(go_simp;with_reducible rfl))
     try simp only [agO13,Act.put,List.setIfInBounds_toArray,List.set_cons_zero,List.set_cons_succ]
     refine wpAnyH_take (i:=14) (oi:=agO14) (v:=?_) rfl gK gK gK (fun _ _ _ h=>h) (Or.inl ⟨by rfl,?_⟩) (by assumption) ?_
     rotate_left
     ·(intro W hSw;(try dsimp only at hSw);try simp only [agO14];first|(go_simp;done)|(go_simp;with_reducible rfl))
     try simp only [agO14,Act.put,List.setIfInBounds_toArray,List.set_cons_zero,List.set_cons_succ]
     refine wpAnyH_take (i:=15) (oi:=agO15) (v:=?_) rfl gK gK gK (fun _ _ _ h=>h) (Or.inl ⟨by rfl,?_⟩) (by assumption) ?_
     rotate_left
     ·(intro W hSw;(try dsimp only at hSw);try simp only [agO15];first|(go_simp;done)|(go_simp;with_reducible rfl))
     try simp only [agO15,Act.put,List.setIfInBounds_toArray,List.set_cons_zero,List.set_cons_succ]
     refine wpAnyH_take (i:=16) (oi:=agO16) (v:=?_) rfl gK gK gK (fun _ _ _ h=>h) (Or.inl ⟨by rfl,?_⟩) (by assumption) ?_
     rotate_left
     ·(intro W hSw;(try dsimp only at hSw);try simp only [agO16];first|(go_simp;done)|(go_simp;with_reducible rfl))
     try simp only [agO16,Act.put,List.setIfInBounds_toArray,List.set_cons_zero,List.set_cons_succ]
     refine wpAnyH_take (i:=17) (oi:=agO17) (v:=?_) rfl gK gK gK (fun _ _ _ h=>h) (Or.inl ⟨by rfl,?_⟩) (by assumption) ?_
     rotate_left
     ·(intro W hSw;(try dsimp only at hSw);try simp only [agO17];first|(go_simp;done)|(go_simp;with_reducible rfl))
     try simp only [agO17,Act.put,List.setIfInBounds_toArray,List.set_cons_zero,List.set_cons_succ]
     refine wpAnyH_take (i:=18) (oi:=agO18) (v:=?_) rfl gK gK gK (fun _ _ _ h=>h) (Or.inl ⟨by rfl,?_⟩) (by assumption) ?_
     rotate_left
     ·(intro W hSw;(try dsimp only at hSw);try simp only [agO18];first|(go_simp;done)|(go_simp;with_reducible rfl))
     try simp only [agO18,Act.put,List.setIfInBounds_toArray,List.set_cons_zero,List.set_cons_succ]
     refine wpAnyH_take (i:=19) (oi:=agO19) (v:=?_) rfl gK gK gK (fun _ _ _ h=>h) (Or.inl ⟨by rfl,?_⟩) (by assumption) ?_
     rotate_left
     ·(intro W hSw;(try dsimp only at hSw);try simp only [agO19];first|(go_simp;done)|(go_simp;with_reducible rfl))
     try simp only [agO19,Act.put,List.setIfInBounds_toArray,List.set_cons_zero,List.set_cons_succ]
     refine wpAnyH_take (i:=20) (oi:=agO20) (v:=?_) rfl gK gK gK (fun _ _ _ h=>h) (Or.inl ⟨by rfl,?_⟩) (by assumption) ?_
     rotate_left
     ·(intro W hSw;(try dsimp only at hSw);try simp only [agO20];first|(go_simp;done)|(go_simp;with_reducible rfl))
     try simp only [agO20,Act.put,List.setIfInBounds_toArray,List.set_cons_zero,List.set_cons_succ]
     refine wpAnyH_take (i:=21) (oi:=agO21) (v:=?_) rfl gK gK gK (fun _ _ _ h=>h) (Or.inl ⟨by rfl,?_⟩) (by assumption) ?_
     rotate_left
     ·(intro W hSw;(try dsimp only at hSw);obtain ⟨g1,g2⟩:=hSw;obtain ⟨h0,h1,h2,h3⟩:=g1;have e0:=g2.at 0;have e1:=g2.at 1;have e2:=g2.at 2;have e3:=g2.at 3;clear g2;simp only at h0 h1 h2 h3;try simp only [agO21];first|(go_simp;done)|(go_simp;with_reducible rfl))
     try simp only [agO21,Act.put,List.setIfInBounds_toArray,List.set_cons_zero,List.set_cons_succ]
     refine wpAnyH_take (i:=22) (oi:=agO22) (v:=?_) rfl gK gK gK (fun _ _ _ h=>h) (Or.inl ⟨by rfl,?_⟩) (by assumption) ?_
     rotate_left
     ·(intro W hSw;(try dsimp only at hSw);try simp only [agO22];first|(go_simp;done)|(go_simp;with_reducible rfl))
     try simp only [agO22,Act.put,List.setIfInBounds_toArray,List.set_cons_zero,List.set_cons_succ]
     refine wpAnyH_take (i:=23) (oi:=agO23) (v:=?_) rfl gK gK gK (fun _ _ _ h=>h) (Or.inl ⟨by rfl,?_⟩) (by assumption) ?_
     rotate_left
     ·(intro W hSw;(try dsimp only at hSw);try simp only [agO23];first|(go_simp;done)|(go_simp;with_reducible rfl))
     try simp only [agO23,Act.put,List.setIfInBounds_toArray,List.set_cons_zero,List.set_cons_succ]
     refine wpAnyH_take (i:=24) (oi:=agO24) (v:=undef) rfl gK gK gK (fun _ _ _ h=>h) (Or.inr ⟨by rfl,rfl⟩) (by assumption) ?_
     try simp only [agO24,Act.put,List.setIfInBounds_toArray,List.set_cons_zero,List.set_cons_succ]
     refine wpAnyH_take (i:=25) (oi:=agO25) (v:=undef) rfl gK gK gK (fun _ _ _ h=>h) (Or.inr ⟨by rfl,rfl⟩) (by assumption) ?_
     try simp only [agO25,Act.put,List.setIfInBounds_toArray,List.set_cons_zero,List.set_cons_succ]
     refine wpAnyH_take (i:=26) (oi:=agO26) (v:=?_) rfl gK gK gK (fun _ _ _ h=>h) (Or.inl ⟨by rfl,?_⟩) (by assumption) ?_
     rotate_left
     ·(intro W hSw;(try dsimp only at hSw);try simp only [agO26];first|(go_simp;done)|(go_simp;with_reducible rfl))
     try simp only [agO26,Act.put,List.setIfInBounds_toArray,List.set_cons_zero,List.set_cons_succ]
     refine wpAnyH_take (i:=27) (oi:=agO27) (v:=?_) rfl gK gK gK (fun _ _ _ h=>h) (Or.inl ⟨by rfl,?_⟩) (by assumption) ?_
     rotate_left
     ·(intro W hSw;(try dsimp only at hSw);try simp only [agO27];first|(go_simp;done)|(go_simp;with_reducible rfl))
     try simp only [agO27,Act.put,List.setIfInBounds_toArray,List.set_cons_zero,List.set_cons_succ]
     refine wpAnyH_take (i:=28) (oi:=agO28) (v:=?_) rfl gK gK gK (fun _ _ _ h=>h) (Or.inl ⟨by rfl,?_⟩) (by assumption) ?_
     rotate_left
     ·(intro W hSw;(try dsimp only at hSw);try simp only [agO28];first|(go_simp;done)|(go_simp;with_reducible rfl))
     try simp only [agO28,Act.put,List.setIfInBounds_toArray,List.set_cons_zero,List.set_cons_succ]
     refine wpAnyH_take (i:=29) (oi:=agO29) (v:=?_) rfl gK gK gK (fun _ _ _ h=>h) (Or.inl ⟨by rfl,?_⟩) (by assumption) ?_
     rotate_left
     ·(intro W hSw;(try dsimp only at hSw);try simp only [agO29];first|(go_simp;done)|(go_simp;with_reducible rfl))
     try simp only [agO29,Act.put,List.setIfInBounds_toArray,List.set_cons_zero,List.set_cons_succ]
     refine wpAnyH_take (i:=30) (oi:=agO30) (v:=?_) rfl gK gK gK (fun _ _ _ h=>h) (Or.inl ⟨by rfl,?_⟩) (by assumption) ?_
     rotate_left
     ·(intro W hSw;(try dsimp only at hSw);try simp only [agO30];first|(go_simp;done)|(go_simp;with_reducible rfl))
     try simp only [agO30,Act.put,List.setIfInBounds_toArray,List.set_cons_zero,List.set_cons_succ]
     refine wpAnyH_take (i:=31) (oi:=agO31) (v:=?_) rfl gK gK gK (fun _ _ _ h=>h) (Or.inl ⟨by rfl,?_⟩) (by assumption) ?_
     rotate_left
     ·(intro W hSw;(try dsimp only at hSw);try simp only [agO31];first|(go_simp;done)|(go_simp;with_reducible rfl))
     try simp only [agO31,Act.put,List.setIfInBounds_toArray,List.set_cons_zero,List.set_cons_succ]
     refine wpAnyH_take (i:=32) (oi:=agO32) (v:=?_) rfl gK gK gK (fun _ _ _ h=>h) (Or.inl ⟨by rfl,?_⟩) (by assumption) ?_
     rotate_left
     ·(intro W hSw;(try dsimp only at hSw);try simp only [agO32];first|(go_simp;done)|(go_simp;with_reducible rfl))
     try simp only [agO32,Act.put,List.setIfInBounds_toArray,List.set_cons_zero,List.set_cons_succ]
     refine wpAnyH_take (i:=33) (oi:=agO33) (v:=?_) rfl gK gK gK (fun _ _ _ h=>h) (Or.inl ⟨by rfl,?_⟩) (by assumption) ?_
     rotate_left
     ·(intro W hSw;(try dsimp only at hSw);obtain ⟨g1,g2⟩:=hSw;obtain ⟨h0,h1,h2,h3⟩:=g1;have e0:=g2.at 0;have e1:=g2.at 1;have e2:=g2.at 2;have e3:=g2.at 3;clear g2;simp only at h0 h1 h2 h3;try simp only [agO33];first|(go_simp;done)|(go_simp;with_reducible rfl))
     try simp only [agO33,Act.put,List.setIfInBounds_toArray,List.set_cons_zero,List.set_cons_succ]
     refine wpAnyH_take (i:=34) (oi:=agO34) (v:=?_) rfl gK gK gK (fun _ _ _ h=>h) (Or.inl ⟨by rfl,?_⟩) (by assumption) ?_
     rotate_left
     ·(intro W hSw;(try dsimp only at hSw);try simp only [agO34];first|(go_simp;done)|(go_simp;with_reducible rfl))
     try simp only [agO34,Act.put,List.setIfInBounds_toArray,List.set_cons_zero,List.set_cons_succ]
     refine wpAnyH_take (i:=35) (oi:=agO35) (v:=?_) rfl gK gK gK (fun _ _ _ h=>h) (Or.inl ⟨by rfl,?_⟩) (by assumption) ?_
     rotate_left
     ·(intro W hSw;(try dsimp only at hSw);try simp only [agO35];first|(go_simp;done)|(go_simp;with_reducible rfl))
     try simp only [agO35,Act.put,List.setIfInBounds_toArray,List.set_cons_zero,List.set_cons_succ]
     refine wpAnyH_take (i:=36) (oi:=agO36) (v:=undef) rfl gK gK gK (fun _ _ _ h=>h) (Or.inr ⟨by rfl,rfl⟩) (by assumption) ?_
     try simp only [agO36,Act.put,List.setIfInBounds_toArray,List.set_cons_zero,List.set_cons_succ]
     refine wpAnyH_take (i:=37) (oi:=agO37) (v:=undef) rfl gK gK gK (fun _ _ _ h=>h) (Or.inr ⟨by rfl,rfl⟩) (by assumption) ?_
     try simp only [agO37,Act.put,List.setIfInBounds_toArray,List.set_cons_zero,List.set_cons_succ]
     refine wpAnyH_take (i:=38) (oi:=agO38) (v:=undef) rfl gK gK gK (fun _ _ _ h=>h) (Or.inr ⟨by rfl,rfl⟩) (by assumption) ?_
     try simp only [agO38,Act.put,List.setIfInBounds_toArray,List.set_cons_zero,List.set_cons_succ]
     refine wpAnyH_take (i:=39) (oi:=agO39) (v:=undef) rfl gK gK gK (fun _ _ _ h=>h) (Or.inr ⟨by rfl,rfl⟩) (by assumption) ?_
     try simp only [agO39,Act.put,List.setIfInBounds_toArray,List.set_cons_zero,List.set_cons_succ]
     refine wpAnyH_take (i:=40) (oi:=agO40) (v:=undef) rfl gK gK gK (fun _ _ _ h=>h) (Or.inr ⟨by rfl,rfl⟩) (by assumption) ?_
     try simp only [agO40,Act.put,List.setIfInBounds_toArray,List.set_cons_zero,List.set_cons_succ]
     refine wpAnyH_take (i:=41) (oi:=agO41) (v:=undef) rfl gK gK gK (fun _ _ _ h=>h) (Or.inr ⟨by rfl,rfl⟩) (by assumption) ?_
     try simp only [agO41,Act.put,List.setIfInBounds_toArray,List.set_cons_zero,List.set_cons_succ]
     refine wpAnyH_take (i:=42) (oi:=agO42) (v:=undef) rfl gK gK gK (fun _ _ _ h=>h) (Or.inr ⟨by rfl,rfl⟩) (by assumption) ?_
     try simp only [agO42,Act.put,List.setIfInBounds_toArray,List.set_cons_zero,List.set_cons_succ]
     refine wpAnyH_take (i:=43) (oi:=agO43) (v:=undef) rfl gK gK gK (fun _ _ _ h=>h) (Or.inr ⟨by rfl,rfl⟩) (by assumption) ?_
     try simp only [agO43,Act.put,List.setIfInBounds_toArray,List.set_cons_zero,List.set_cons_succ]
     refine wpAnyH_take (i:=44) (oi:=agO44) (v:=?_) rfl gK gK gK (fun _ _ _ h=>h) (Or.inl ⟨by rfl,?_⟩) (by assumption) ?_
     rotate_left
     ·(intro W hSw;(try dsimp only at hSw);try simp only [agO44];first|(go_simp;done)|(go_simp;with_reducible rfl))
     try simp only [agO44,Act.put,List.setIfInBounds_toArray,List.set_cons_zero,List.set_cons_succ]
     refine wpAnyH_take (i:=45) (oi:=agO45) (v:=?_) rfl gK gK gK (fun _ _ _ h=>h) (Or.inl ⟨by rfl,?_⟩) (by assumption) ?_
     rotate_left
     ·(intro W hSw;(try dsimp only at hSw);try simp only [agO45];first|(go_simp;done)|(go_simp;with_reducible rfl))
     try simp only [agO45,Act.put,List.setIfInBounds_toArray,List.set_cons_zero,List.set_cons_succ]
     refine wpAnyH_done gK ?_ _
     go_wp2
     go_roundw
     case rel=>exact ⟨i+1,by go_num,by omega,B9.drew⟩
     case measure=>simp [intOf];omega
  ·have hlt':¬ (i:Int)<(m:Int):=by omega
   have K9:=KN _ (z0a B8 B9a)
   go_wp2_with fail
   refine K9.mono ?_
   rintro e w10 ⟨rfl,b10⟩
   go_wp2
   go_ret
   exact ⟨rfl,z0a (z0a B8 B9a) b10⟩
end Go.Proofs.YtljkonkfeiojnaaGreatDoor

namespace Go.Proofs.YtljkonkfeiojnaaGreatDoor
open Go.ChangeShapes Go.WideShapes Go.ChangeAt Go.WideMaps Go.WideElems Go.RowKit Go.Shelf Go.Lib
open Go.ChangeMaps (open_string shut_string)
theorem sag_lifted (os:Os) (started:os.Started) (H:Type) (enc:TypeId × Value→H) :
  ReturnsInHanded {} Tryz.checked os 3 .any (fun w args=>(Rows.schemaAgainSpec.pre enc Tryz.prog Tryz.f3 [] false w args∧laidMetH Tryz.prog Rows.schemaAgainRow.laid w)∧sizedMet enc Tryz.prog Tryz.f3 (OpenSpec.ofChange Rows.schemaAgainSpec) false w args)
   (Rows.schemaAgainSpec.post enc Tryz.prog Tryz.f3 false true false false):=by
 refine returnsInHanded_of_change_and (C:=Tryz.checked) (X:=fun w _=>laidMetH Tryz.prog Rows.schemaAgainRow.laid w) (fun _ _ _ hh h=>h.of_heap hh) own started gK Tryz.func3
  (ChangeSpec.witness_shaped (enc:=enc) (C:=Tryz.checked) (os:=os) (X:=fun w _=>laidMetH Tryz.prog Rows.schemaAgainRow.laid w) false (World.laidAll Tryz.prog os Rows.schemaAgainRow.laid) #[.agg #[.string ⟨#[]⟩,.slice none 0 0,.slice none 0 0,.slice none 0 0,.slice none 0 0],.slice none 0 0] 8 (World.laidAll_os _ _ _)
   (World.shaped_of_ZipB gK gK) gK gK gK
   (by rw [MakeChecks.laidMetH_plain _ _ _ gK];exact laidMet_laidAll _ gK gK)) ?_
 intro W base args ds gs before hval0 hW _ hsz0 hL _
 have hval:∀ (j:Nat) t v,Tryz.f3.params[j]?=some t→args[j]?=some v→Value.okWide Tryz.prog W .any base t v:=hval0
 have hsz:(DataW.weightsEach Tryz.prog (Tryz.f3.params.toList++Rows.schemaAgainSpec.plain.varTypes Tryz.prog) (ds++gs)).all (·≤reachBytes)=true:=hsz0
 have hW':=hW
 obtain ⟨p,q,hA0,hV,rfl,hfz,hnd⟩:=hW
 have hA:DataW.TrodAll enc Tryz.prog W 0 (fun _=>true) true Tryz.f3.params.toList args.toList ds p:=hA0
 rw [Tryz.params3] at hA hval hsz
 obtain ⟨v0,v1,d0,d1,p0,p1,rfl,rfl,rfl,h0,h1⟩:=trodAll_two hA
 obtain ⟨rfl,rfl⟩:=trodVars_none hV
 obtain ⟨cs0,rfl,_⟩:=okWide_struct Tryz.underlying27 (hval 0 27 v0 rfl rfl)
 have k0:=h0
 have lt0:∀ x∈p0,x.block<W.heap.size:=by obtain ⟨m,hm⟩:=k0;exact DataW.trod_lt m _ _ _ hm
 obtain ⟨f0,hf0⟩:=h0
 obtain ⟨t0,q0,ex0,tb0⟩:=table_open hf0
 obtain rfl:cs0=tbcs t0 q0:=by obtain ⟨l⟩:=cs0;exact congrArg List.toArray ex0
 have tw0:=table_sized hsz (j:=0) rfl rfl tb0
 obtain ⟨x1,n1,c1,rfl⟩:=okWide_slice Tryz.underlying28 (hval 1 28 v1 rfl rfl)
 have k1:=h1
 have lt1:∀ x∈p1,x.block<W.heap.size:=by obtain ⟨m,hm⟩:=k1;exact DataW.trod_lt m _ _ _ hm
 obtain ⟨f1,hf1⟩:=h1
 obtain ⟨g1,r1,e1⟩:=vals_open (a:=x1) (len:=n1) (cap:=c1) hf1 (by simp [Value.cells])
 have z1:c1*Tryz.prog.bytesOf 44≤140737488351232:=by
  rcases e1 with h|⟨es,sp,hd,hl⟩
  ·rw [h];simp
  ·have hd0:d1=.slice es sp:=hd
   rw [← hl];exact sized_slice hsz (j:=1) (t:=28) (e:=44) rfl (by simp [hd0]) Tryz.underlying28
 obtain ⟨r1v,r1z,rfl,r1c,r1i⟩:=r1
 rw [bytes40] at z1
 clear hA0 hval0 hsz0
 rw [MakeChecks.laidMetH_plain _ _ _ gK] at hL
 have hT:Tabs W:=tabs_of (Lib.laidMet.reads hL (.tail _ (.tail _ (.tail _ (.tail _ (.tail _ (.tail _ (.tail _ (.tail _ (.head _)))))))))) (Lib.laidMet.reads hL (.tail _ (.tail _ (.tail _ (.head _)))))
 have hP:Ptab W:=ptab8_of (Lib.laidMet.reads hL (.tail _ (.tail _ (.head _))))
 have hPw:Pw W:=pw_of (Lib.laidMet.reads hL (.tail _ (.tail _ (.tail _ (.tail _ (.tail _ (.tail _ (.head _))))))))
 have hS:Sg W:=sg8_of (Lib.laidMet.reads hL (.tail _ (.tail _ (.tail _ (.tail _ (.tail _ (.tail _ (.tail _ (.head _)))))))))
 refine (again8_any t0 q0 x1 c1 g1 W tw0.1 tw0.2.1 r1v r1z (by omega) tw0.2.2 r1i hT hP hS hPw).mono fun e W' ⟨he,bel⟩=>?_
 subst he
 exact ⟨_,rfl,_,_,_,[],_,[],hW',trodAll_mk1 (shut_bool Tryz.underlying4 _),trodAll_mk2 (Below.trod laidOut gK (of_decide_eq_true gK) k0 bel lt0) (Below.trod laidOut gK (of_decide_eq_true gK) k1 bel lt1),rfl,bel.frame _,fun h=>by cases h⟩
end Go.Proofs.YtljkonkfeiojnaaGreatDoor
