/-
  Ops of two Points: eval.ofPoints.
-/
import Derived.Test.YtljkonkfeiojnaaGreatDoorMNQBinC
import Derived.Test.YtljkonkfeiojnaaGreatDoorMMHTurn
import Derived.Deep.Cut
set_option maxHeartbeats 8000000
set_option maxRecDepth 20000
namespace Go.Proofs.YtljkonkfeiojnaaGreatDoor
open Go.RowKit Go.Shelf
attribute [local go_sem] z0f z0b z0c z0e z0m z0k z0h z0d z0g
attribute [local go_sem high] Ga.cellMA Ga.frozenMA Ga.setMA Ga.cellMAM Ga.frozenMAM Ga.setMAM Ga.cellMAA Ga.frozenMAA Ga.setMAA Ga.cellMAAM Ga.frozenMAAM Ga.setMAAM Ga.cellMAMA Ga.frozenMAMA Ga.setMAMA Ga.cellMAMAM Ga.frozenMAMAM Ga.setMAMAM Ga.cellMAMAMA Ga.frozenMAMAMA Ga.setMAMAMA Ga.cellMAMAMAM Ga.frozenMAMAMAM Ga.setMAMAMAM Ga.size_blank
def qpO0:Oper:=⟨some 16,.load 44 (.tmp 4),44, "op.go:148",#[],none⟩
def qpO1:Oper:=⟨some 17,.call { callee:=Callee.value (Operand.func 147),args:=#[.tmp 16],argTypes:=#[44] },68, "op.go:148",#[⟨0,.data⟩],none⟩
def qpO2:Oper:=⟨some 18,.load 44 (.tmp 5),44, "op.go:148",#[],none⟩
def qpO3:Oper:=⟨some 19,.call { callee:=Callee.value (Operand.func 147),args:=#[.tmp 18],argTypes:=#[44] },68, "op.go:148",#[⟨2,.data⟩,⟨1,.chain⟩],none⟩
def qpO4:Oper:=⟨some 8,.alloc 68,0, "op.go:148",#[],none⟩
def qpO5:Oper:=⟨some 9,.alloc 68,0, "op.go:148",#[],none⟩
def qpO6:Oper:=⟨none,.store 68 (.tmp 8) (.tmp 17),0, "op.go:148",#[⟨4,.data⟩,⟨1,.data⟩,⟨3,.chain⟩,⟨0,.phase⟩,⟨1,.phase⟩,⟨2,.textOnly .lateStores⟩,⟨3,.textOnly .lateStoresUnsure⟩,⟨4,.phase⟩,⟨5,.phase⟩],none⟩
def qpO7:Oper:=⟨none,.store 68 (.tmp 9) (.tmp 19),0, "op.go:148",#[⟨5,.data⟩,⟨3,.data⟩,⟨6,.chain⟩,⟨0,.phase⟩,⟨1,.phase⟩,⟨2,.phase⟩,⟨3,.phase⟩,⟨4,.phase⟩,⟨5,.phase⟩,⟨6,.phase⟩],none⟩
theorem qpts_walk (op an am bn bm c x9 y9 z9 x10 y10 z10 x6 y6 z6 x7 y7 z7 x8 y8:Int) (ab bb:List UInt8) (w:World) (D9:∀ W,Calls Tryz.prog 167 #[dv an am,dv bn bm] W fun e w'=>e=.returned (.tuple #[dv x9 y9,.int .i64 z9])∧Grew W w') (D10:∀ W,Calls Tryz.prog 168 #[dv an am,dv bn bm] W fun e w'=>e=.returned (.tuple #[dv x10 y10,.int .i64 z10])∧Grew W w') (D6:∀ W,Calls Tryz.prog 169 #[dv an am,dv bn bm] W fun e w'=>e=.returned (.tuple #[dv x6 y6,.int .i64 z6])∧Grew W w') (D7:∀ W,Calls Tryz.prog 170 #[dv an am,dv bn bm] W fun e w'=>e=.returned (.tuple #[dv x7 y7,dv x8 y8,.int .i64 z7])∧Grew W w')
  (D:z0s 125 #[va 5 an am ⟨ab.toArray⟩,va 5 bn bm ⟨bb.toArray⟩] w (.int .i64 c)) (r:Va × Int) (hr:Hid (r=if op=9 then z0z x9 y9 z9 else if op=10 then z0z x10 y10 z10 else if op=6 then z0z x6 y6 z6 else if op=7 then z0z x7 y7 z7 else if op=8 then z0z x8 y8 z7 else cmpR op c)) :
  Calls Tryz.prog 122 #[.int .i64 op,va 5 an am ⟨ab.toArray⟩,va 5 bn bm ⟨bb.toArray⟩] w fun e w'=>e=.returned (rs r)∧Below w.heap.size w w':=by
 obtain ⟨w0,hw0,bxa,bxb,bxr,Bw⟩:=z0w w ⟨5,an,am,ab⟩ ⟨5,bn,bm,bb⟩
 dsimp only at hw0
 have U:=fun k n m b W=>z8q k n m b W
 have H:=fun n s x W=>z7h n s x W
 have HC:=fun W=>z3t op c W
 have lta:=bxa.lt
 have ltb:=bxb.lt
 have ltr:=bxr.lt
 go_enter Tryz.func122,Tryz.ntmps122
 go_wp2_with fail
 rw [← hw0]
 clear hw0
 obtain ⟨a0,a1,a2,a3⟩:=bxa.at4
 obtain ⟨b0,b1,b2,b3⟩:=bxb.at4
 dsimp only at a0 a1 a2 a3 b0 b1 b2 b3
 simp only [Nat.zero_add] at a1 a2 a3 b1 b2 b3
 go_cut [8,9] from 16 (fun s0 s1 wx=>∃ p q:Nat,s0=.pointer (some ⟨p,0,none⟩)∧s1=.pointer (some ⟨q,0,none⟩)∧Ga.Two wx p an am∧Ga.Two wx q bn bm∧Grew w0 wx)
 case first =>
  clear D D9 D10 D6 D7 H HC
  refine wp_region_held_drew (S:=(fun W=>W.cell? ⟨w.heap.size,0,none⟩=some (.int .i64 5)∧W.cell? ⟨w.heap.size,1,none⟩=some (.int .i64 an)∧W.cell? ⟨w.heap.size,2,none⟩=some (.int .i64 am)∧W.cell? ⟨w.heap.size,3,none⟩=some (.string ⟨ab.toArray⟩) ∧
   W.cell? ⟨w.heap.size+1,0,none⟩=some (.int .i64 5)∧W.cell? ⟨w.heap.size+1,1,none⟩=some (.int .i64 bn)∧W.cell? ⟨w.heap.size+1,2,none⟩=some (.int .i64 bm)∧W.cell? ⟨w.heap.size+1,3,none⟩=some (.string ⟨bb.toArray⟩))) gK ?_ (fun hHeld=>?_)
  ·((try dsimp only);(simp (maxDischargeDepth:=12) [go_sem,a0,a1,a2,a3,b0,b1,b2,b3]))
  refine wpAnyH_take (i:=0) (oi:=qpO0) (v:=?_) rfl gK gK gK (fun _ _ _ h=>h) (Or.inl ⟨by rfl,?_⟩) (by assumption) ?_
  rotate_left
  ·(intro W hSw;(try dsimp only at hSw);try simp only [qpO0];first|(go_simp;done)|(go_simp;with_reducible rfl))
  try simp only [qpO0,Act.put,List.setIfInBounds_toArray,List.set_cons_zero,List.set_cons_succ]
  refine wpAnyH_take (i:=2) (oi:=qpO2) (v:=?_) rfl gK gK gK (fun _ _ _ h=>h) (Or.inl ⟨by rfl,?_⟩) (by assumption) ?_
  rotate_left
  ·(intro W hSw;(try dsimp only at hSw);try simp only [qpO2];first|(go_simp;done)|(go_simp;with_reducible rfl))
  try simp only [qpO2,Act.put,List.setIfInBounds_toArray,List.set_cons_zero,List.set_cons_succ]
  refine wpAnyH_ready (rs:=[1,4,5]) gK (by simp) ?_
  refine AllReadyH.cons (o:=qpO1) rfl (fun K hK=>?_) (AllReadyH.cons (o:=qpO4) rfl (fun K hK=>?_) (AllReadyH.cons (o:=qpO5) rfl (fun K hK=>?_) AllReadyH.nil))
  ·
   try simp only [qpO1]
   go_simp
   go_wp2_with (go_at_call 147;refine (U _ _ _ _ _).mono ?_;rintro e w1 ⟨rfl,os1,n1,rfl⟩)
   refine hK.out _ _ ?_ (fun hHeld=>?_)
   ·((try dsimp only);(simp (maxDischargeDepth:=12) [go_sem,a0,a1,a2,a3,b0,b1,b2,b3,lta,ltb]))
   clear hK K
   try simp only [Act.put,sA,sB,sC]
   refine wpAnyH_ready (rs:=[3,4,5]) gK (by simp) ?_
   refine AllReadyH.cons (o:=qpO3) rfl (fun K hK=>?_) (AllReadyH.cons (o:=qpO4) rfl (fun K hK=>?_) (AllReadyH.cons (o:=qpO5) rfl (fun K hK=>?_) AllReadyH.nil))
   ·
    try simp only [qpO3]
    go_simp
    go_wp2_with (go_at_call 147;refine (U _ _ _ _ _).mono ?_;rintro e w1 ⟨rfl,os1,n1,rfl⟩)
    refine hK.out _ _ ?_ (fun hHeld=>?_)
    ·((try dsimp only);(simp (maxDischargeDepth:=12) [go_sem,a0,a1,a2,a3,b0,b1,b2,b3,lta,ltb]))
    clear hK K
    try simp only [Act.put,sA,sB,sC]
    refine wpAnyH_ready (rs:=[4,5]) gK (by simp) ?_
    refine AllReadyH.cons (o:=qpO4) rfl (fun K hK=>?_) (AllReadyH.cons (o:=qpO5) rfl (fun K hK=>?_) AllReadyH.nil)
    ·
     try simp only [qpO4]
     go_simp
     refine hK.out _ _ ?_ (fun hHeld=>?_)
     ·((try dsimp only);(simp (maxDischargeDepth:=12) [go_sem,a0,a1,a2,a3,b0,b1,b2,b3,lta,ltb]))
     clear hK K
     try simp only [Act.put,sA,sB,sC]
     refine wpAnyH_ready (rs:=[5]) gK (by simp) ?_
     refine AllReadyH.cons (o:=qpO5) rfl (fun K hK=>?_) AllReadyH.nil
     try simp only [qpO5]
     go_simp
     refine hK.out _ _ ?_ (fun hHeld=>?_)
     ·((try dsimp only);(simp (maxDischargeDepth:=12) [go_sem,a0,a1,a2,a3,b0,b1,b2,b3,lta,ltb]))
     clear hK K
     try simp only [Act.put,sA,sB,sC]
     refine wpAnyH_ready (rs:=[6]) gK (by simp) ?_
     refine AllReadyH.cons (o:=qpO6) rfl (fun K hK=>?_) AllReadyH.nil
     try simp only [qpO6]
     go_simp
     refine hK.out _ _ ?_ (fun hHeld=>?_)
     ·((try dsimp only);(simp (maxDischargeDepth:=12) [go_sem,a0,a1,a2,a3,b0,b1,b2,b3,lta,ltb]))
     clear hK K
     try simp only [Act.put,sA,sB,sC]
     refine wpAnyH_ready (rs:=[7]) gK (by simp) ?_
     refine AllReadyH.cons (o:=qpO7) rfl (fun K hK=>?_) AllReadyH.nil
     try simp only [qpO7]
     go_simp
     refine hK.out _ _ ?_ (fun hHeld=>?_)
     ·((try dsimp only);(simp (maxDischargeDepth:=12) [go_sem,a0,a1,a2,a3,b0,b1,b2,b3,lta,ltb]))
     clear hK K
     try simp only [Act.put,sA,sB,sC]
     refine wpAnyH_done gK ?_ _
     go_wp2_with fail
     go_meet
     exact ⟨_,_,rfl,rfl,⟨gD,gD⟩,⟨gD,gD⟩,gB⟩
    ·
     try simp only [qpO5]
     go_simp
     refine hK.out _ _ ?_ (fun hHeld=>?_)
     ·((try dsimp only);(simp (maxDischargeDepth:=12) [go_sem,a0,a1,a2,a3,b0,b1,b2,b3,lta,ltb]))
     clear hK K
     try simp only [Act.put,sA,sB,sC]
     refine wpAnyH_ready (rs:=[4]) gK (by simp) ?_
     refine AllReadyH.cons (o:=qpO4) rfl (fun K hK=>?_) AllReadyH.nil
     try simp only [qpO4]
     go_simp
     refine hK.out _ _ ?_ (fun hHeld=>?_)
     ·((try dsimp only);(simp (maxDischargeDepth:=12) [go_sem,a0,a1,a2,a3,b0,b1,b2,b3,lta,ltb]))
     clear hK K
     try simp only [Act.put,sA,sB,sC]
     refine wpAnyH_ready (rs:=[6]) gK (by simp) ?_
     refine AllReadyH.cons (o:=qpO6) rfl (fun K hK=>?_) AllReadyH.nil
     try simp only [qpO6]
     go_simp
     refine hK.out _ _ ?_ (fun hHeld=>?_)
     ·((try dsimp only);(simp (maxDischargeDepth:=12) [go_sem,a0,a1,a2,a3,b0,b1,b2,b3,lta,ltb]))
     clear hK K
     try simp only [Act.put,sA,sB,sC]
     refine wpAnyH_ready (rs:=[7]) gK (by simp) ?_
     refine AllReadyH.cons (o:=qpO7) rfl (fun K hK=>?_) AllReadyH.nil
     try simp only [qpO7]
     go_simp
     refine hK.out _ _ ?_ (fun hHeld=>?_)
     ·((try dsimp only);(simp (maxDischargeDepth:=12) [go_sem,a0,a1,a2,a3,b0,b1,b2,b3,lta,ltb]))
     clear hK K
     try simp only [Act.put,sA,sB,sC]
     refine wpAnyH_done gK ?_ _
     go_wp2_with fail
     go_meet
     exact ⟨_,_,rfl,rfl,⟨gD,gD⟩,⟨gD,gD⟩,gB⟩
   ·
    try simp only [qpO4]
    go_simp
    refine hK.out _ _ ?_ (fun hHeld=>?_)
    ·((try dsimp only);(simp (maxDischargeDepth:=12) [go_sem,a0,a1,a2,a3,b0,b1,b2,b3,lta,ltb]))
    clear hK K
    try simp only [Act.put,sA,sB,sC]
    refine wpAnyH_ready (rs:=[3,5]) gK (by simp) ?_
    refine AllReadyH.cons (o:=qpO3) rfl (fun K hK=>?_) (AllReadyH.cons (o:=qpO5) rfl (fun K hK=>?_) AllReadyH.nil)
    ·
     try simp only [qpO3]
     go_simp
     go_wp2_with (go_at_call 147;refine (U _ _ _ _ _).mono ?_;rintro e w1 ⟨rfl,os1,n1,rfl⟩)
     refine hK.out _ _ ?_ (fun hHeld=>?_)
     ·((try dsimp only);(simp (maxDischargeDepth:=12) [go_sem,a0,a1,a2,a3,b0,b1,b2,b3,lta,ltb]))
     clear hK K
     try simp only [Act.put,sA,sB,sC]
     refine wpAnyH_ready (rs:=[5]) gK (by simp) ?_
     refine AllReadyH.cons (o:=qpO5) rfl (fun K hK=>?_) AllReadyH.nil
     try simp only [qpO5]
     go_simp
     refine hK.out _ _ ?_ (fun hHeld=>?_)
     ·((try dsimp only);(simp (maxDischargeDepth:=12) [go_sem,a0,a1,a2,a3,b0,b1,b2,b3,lta,ltb]))
     clear hK K
     try simp only [Act.put,sA,sB,sC]
     refine wpAnyH_ready (rs:=[6]) gK (by simp) ?_
     refine AllReadyH.cons (o:=qpO6) rfl (fun K hK=>?_) AllReadyH.nil
     try simp only [qpO6]
     go_simp
     refine hK.out _ _ ?_ (fun hHeld=>?_)
     ·((try dsimp only);(simp (maxDischargeDepth:=12) [go_sem,a0,a1,a2,a3,b0,b1,b2,b3,lta,ltb]))
     clear hK K
     try simp only [Act.put,sA,sB,sC]
     refine wpAnyH_ready (rs:=[7]) gK (by simp) ?_
     refine AllReadyH.cons (o:=qpO7) rfl (fun K hK=>?_) AllReadyH.nil
     try simp only [qpO7]
     go_simp
     refine hK.out _ _ ?_ (fun hHeld=>?_)
     ·((try dsimp only);(simp (maxDischargeDepth:=12) [go_sem,a0,a1,a2,a3,b0,b1,b2,b3,lta,ltb]))
     clear hK K
     try simp only [Act.put,sA,sB,sC]
     refine wpAnyH_done gK ?_ _
     go_wp2_with fail
     go_meet
     exact ⟨_,_,rfl,rfl,⟨gD,gD⟩,⟨gD,gD⟩,gB⟩
    ·
     try simp only [qpO5]
     go_simp
     refine hK.out _ _ ?_ (fun hHeld=>?_)
     ·((try dsimp only);(simp (maxDischargeDepth:=12) [go_sem,a0,a1,a2,a3,b0,b1,b2,b3,lta,ltb]))
     clear hK K
     try simp only [Act.put,sA,sB,sC]
     refine wpAnyH_ready (rs:=[3]) gK (by simp) ?_
     refine AllReadyH.cons (o:=qpO3) rfl (fun K hK=>?_) AllReadyH.nil
     try simp only [qpO3]
     go_simp
     go_wp2_with (go_at_call 147;refine (U _ _ _ _ _).mono ?_;rintro e w1 ⟨rfl,os1,n1,rfl⟩)
     refine hK.out _ _ ?_ (fun hHeld=>?_)
     ·((try dsimp only);(simp (maxDischargeDepth:=12) [go_sem,a0,a1,a2,a3,b0,b1,b2,b3,lta,ltb]))
     clear hK K
     try simp only [Act.put,sA,sB,sC]
     refine wpAnyH_ready (rs:=[6]) gK (by simp) ?_
     refine AllReadyH.cons (o:=qpO6) rfl (fun K hK=>?_) AllReadyH.nil
     try simp only [qpO6]
     go_simp
     refine hK.out _ _ ?_ (fun hHeld=>?_)
     ·((try dsimp only);(simp (maxDischargeDepth:=12) [go_sem,a0,a1,a2,a3,b0,b1,b2,b3,lta,ltb]))
     clear hK K
     try simp only [Act.put,sA,sB,sC]
     refine wpAnyH_ready (rs:=[7]) gK (by simp) ?_
     refine AllReadyH.cons (o:=qpO7) rfl (fun K hK=>?_) AllReadyH.nil
     try simp only [qpO7]
     go_simp
     refine hK.out _ _ ?_ (fun hHeld=>?_)
     ·((try dsimp only);(simp (maxDischargeDepth:=12) [go_sem,a0,a1,a2,a3,b0,b1,b2,b3,lta,ltb]))
     clear hK K
     try simp only [Act.put,sA,sB,sC]
     refine wpAnyH_done gK ?_ _
     go_wp2_with fail
     go_meet
     exact ⟨_,_,rfl,rfl,⟨gD,gD⟩,⟨gD,gD⟩,gB⟩
   ·
    try simp only [qpO5]
    go_simp
    refine hK.out _ _ ?_ (fun hHeld=>?_)
    ·((try dsimp only);(simp (maxDischargeDepth:=12) [go_sem,a0,a1,a2,a3,b0,b1,b2,b3,lta,ltb]))
    clear hK K
    try simp only [Act.put,sA,sB,sC]
    refine wpAnyH_ready (rs:=[3,4]) gK (by simp) ?_
    refine AllReadyH.cons (o:=qpO3) rfl (fun K hK=>?_) (AllReadyH.cons (o:=qpO4) rfl (fun K hK=>?_) AllReadyH.nil)
    ·
     try simp only [qpO3]
     go_simp
     go_wp2_with (go_at_call 147;refine (U _ _ _ _ _).mono ?_;rintro e w1 ⟨rfl,os1,n1,rfl⟩)
     refine hK.out _ _ ?_ (fun hHeld=>?_)
     ·((try dsimp only);(simp (maxDischargeDepth:=12) [go_sem,a0,a1,a2,a3,b0,b1,b2,b3,lta,ltb]))
     clear hK K
     try simp only [Act.put,sA,sB,sC]
     refine wpAnyH_ready (rs:=[4]) gK (by simp) ?_
     refine AllReadyH.cons (o:=qpO4) rfl (fun K hK=>?_) AllReadyH.nil
     try simp only [qpO4]
     go_simp
     refine hK.out _ _ ?_ (fun hHeld=>?_)
     ·((try dsimp only);(simp (maxDischargeDepth:=12) [go_sem,a0,a1,a2,a3,b0,b1,b2,b3,lta,ltb]))
     clear hK K
     try simp only [Act.put,sA,sB,sC]
     refine wpAnyH_ready (rs:=[6]) gK (by simp) ?_
     refine AllReadyH.cons (o:=qpO6) rfl (fun K hK=>?_) AllReadyH.nil
     try simp only [qpO6]
     go_simp
     refine hK.out _ _ ?_ (fun hHeld=>?_)
     ·((try dsimp only);(simp (maxDischargeDepth:=12) [go_sem,a0,a1,a2,a3,b0,b1,b2,b3,lta,ltb]))
     clear hK K
     try simp only [Act.put,sA,sB,sC]
     refine wpAnyH_ready (rs:=[7]) gK (by simp) ?_
     refine AllReadyH.cons (o:=qpO7) rfl (fun K hK=>?_) AllReadyH.nil
     try simp only [qpO7]
     go_simp
     refine hK.out _ _ ?_ (fun hHeld=>?_)
     ·((try dsimp only);(simp (maxDischargeDepth:=12) [go_sem,a0,a1,a2,a3,b0,b1,b2,b3,lta,ltb]))
     clear hK K
     try simp only [Act.put,sA,sB,sC]
     refine wpAnyH_done gK ?_ _
     go_wp2_with fail
     go_meet
     exact ⟨_,_,rfl,rfl,⟨gD,gD⟩,⟨gD,gD⟩,gB⟩
    ·
     try simp only [qpO4]
     go_simp
     refine hK.out _ _ ?_ (fun hHeld=>?_)
     ·((try dsimp only);(simp (maxDischargeDepth:=12) [go_sem,a0,a1,a2,a3,b0,b1,b2,b3,lta,ltb]))
     clear hK K
     try simp only [Act.put,sA,sB,sC]
     refine wpAnyH_ready (rs:=[3]) gK (by simp) ?_
     refine AllReadyH.cons (o:=qpO3) rfl (fun K hK=>?_) AllReadyH.nil
     try simp only [qpO3]
     go_simp
     go_wp2_with (go_at_call 147;refine (U _ _ _ _ _).mono ?_;rintro e w1 ⟨rfl,os1,n1,rfl⟩)
     refine hK.out _ _ ?_ (fun hHeld=>?_)
     ·((try dsimp only);(simp (maxDischargeDepth:=12) [go_sem,a0,a1,a2,a3,b0,b1,b2,b3,lta,ltb]))
     clear hK K
     try simp only [Act.put,sA,sB,sC]
     refine wpAnyH_ready (rs:=[6]) gK (by simp) ?_
     refine AllReadyH.cons (o:=qpO6) rfl (fun K hK=>?_) AllReadyH.nil
     try simp only [qpO6]
     go_simp
     refine hK.out _ _ ?_ (fun hHeld=>?_)
     ·((try dsimp only);(simp (maxDischargeDepth:=12) [go_sem,a0,a1,a2,a3,b0,b1,b2,b3,lta,ltb]))
     clear hK K
     try simp only [Act.put,sA,sB,sC]
     refine wpAnyH_ready (rs:=[7]) gK (by simp) ?_
     refine AllReadyH.cons (o:=qpO7) rfl (fun K hK=>?_) AllReadyH.nil
     try simp only [qpO7]
     go_simp
     refine hK.out _ _ ?_ (fun hHeld=>?_)
     ·((try dsimp only);(simp (maxDischargeDepth:=12) [go_sem,a0,a1,a2,a3,b0,b1,b2,b3,lta,ltb]))
     clear hK K
     try simp only [Act.put,sA,sB,sC]
     refine wpAnyH_done gK ?_ _
     go_wp2_with fail
     go_meet
     exact ⟨_,_,rfl,rfl,⟨gD,gD⟩,⟨gD,gD⟩,gB⟩
  ·
   try simp only [qpO4]
   go_simp
   refine hK.out _ _ ?_ (fun hHeld=>?_)
   ·((try dsimp only);(simp (maxDischargeDepth:=12) [go_sem,a0,a1,a2,a3,b0,b1,b2,b3,lta,ltb]))
   clear hK K
   try simp only [Act.put,sA,sB,sC]
   refine wpAnyH_ready (rs:=[1,5]) gK (by simp) ?_
   refine AllReadyH.cons (o:=qpO1) rfl (fun K hK=>?_) (AllReadyH.cons (o:=qpO5) rfl (fun K hK=>?_) AllReadyH.nil)
   ·
    try simp only [qpO1]
    go_simp
    go_wp2_with (go_at_call 147;refine (U _ _ _ _ _).mono ?_;rintro e w1 ⟨rfl,os1,n1,rfl⟩)
    refine hK.out _ _ ?_ (fun hHeld=>?_)
    ·((try dsimp only);(simp (maxDischargeDepth:=12) [go_sem,a0,a1,a2,a3,b0,b1,b2,b3,lta,ltb]))
    clear hK K
    try simp only [Act.put,sA,sB,sC]
    refine wpAnyH_ready (rs:=[3,5]) gK (by simp) ?_
    refine AllReadyH.cons (o:=qpO3) rfl (fun K hK=>?_) (AllReadyH.cons (o:=qpO5) rfl (fun K hK=>?_) AllReadyH.nil)
    ·
     try simp only [qpO3]
     go_simp
     go_wp2_with (go_at_call 147;refine (U _ _ _ _ _).mono ?_;rintro e w1 ⟨rfl,os1,n1,rfl⟩)
     refine hK.out _ _ ?_ (fun hHeld=>?_)
     ·((try dsimp only);(simp (maxDischargeDepth:=12) [go_sem,a0,a1,a2,a3,b0,b1,b2,b3,lta,ltb]))
     clear hK K
     try simp only [Act.put,sA,sB,sC]
     refine wpAnyH_ready (rs:=[5]) gK (by simp) ?_
     refine AllReadyH.cons (o:=qpO5) rfl (fun K hK=>?_) AllReadyH.nil
     try simp only [qpO5]
     go_simp
     refine hK.out _ _ ?_ (fun hHeld=>?_)
     ·((try dsimp only);(simp (maxDischargeDepth:=12) [go_sem,a0,a1,a2,a3,b0,b1,b2,b3,lta,ltb]))
     clear hK K
     try simp only [Act.put,sA,sB,sC]
     refine wpAnyH_ready (rs:=[6]) gK (by simp) ?_
     refine AllReadyH.cons (o:=qpO6) rfl (fun K hK=>?_) AllReadyH.nil
     try simp only [qpO6]
     go_simp
     refine hK.out _ _ ?_ (fun hHeld=>?_)
     ·((try dsimp only);(simp (maxDischargeDepth:=12) [go_sem,a0,a1,a2,a3,b0,b1,b2,b3,lta,ltb]))
     clear hK K
     try simp only [Act.put,sA,sB,sC]
     refine wpAnyH_ready (rs:=[7]) gK (by simp) ?_
     refine AllReadyH.cons (o:=qpO7) rfl (fun K hK=>?_) AllReadyH.nil
     try simp only [qpO7]
     go_simp
     refine hK.out _ _ ?_ (fun hHeld=>?_)
     ·((try dsimp only);(simp (maxDischargeDepth:=12) [go_sem,a0,a1,a2,a3,b0,b1,b2,b3,lta,ltb]))
     clear hK K
     try simp only [Act.put,sA,sB,sC]
     refine wpAnyH_done gK ?_ _
     go_wp2_with fail
     go_meet
     exact ⟨_,_,rfl,rfl,⟨gD,gD⟩,⟨gD,gD⟩,gB⟩
    ·
     try simp only [qpO5]
     go_simp
     refine hK.out _ _ ?_ (fun hHeld=>?_)
     ·((try dsimp only);(simp (maxDischargeDepth:=12) [go_sem,a0,a1,a2,a3,b0,b1,b2,b3,lta,ltb]))
     clear hK K
     try simp only [Act.put,sA,sB,sC]
     refine wpAnyH_ready (rs:=[3]) gK (by simp) ?_
     refine AllReadyH.cons (o:=qpO3) rfl (fun K hK=>?_) AllReadyH.nil
     try simp only [qpO3]
     go_simp
     go_wp2_with (go_at_call 147;refine (U _ _ _ _ _).mono ?_;rintro e w1 ⟨rfl,os1,n1,rfl⟩)
     refine hK.out _ _ ?_ (fun hHeld=>?_)
     ·((try dsimp only);(simp (maxDischargeDepth:=12) [go_sem,a0,a1,a2,a3,b0,b1,b2,b3,lta,ltb]))
     clear hK K
     try simp only [Act.put,sA,sB,sC]
     refine wpAnyH_ready (rs:=[6]) gK (by simp) ?_
     refine AllReadyH.cons (o:=qpO6) rfl (fun K hK=>?_) AllReadyH.nil
     try simp only [qpO6]
     go_simp
     refine hK.out _ _ ?_ (fun hHeld=>?_)
     ·((try dsimp only);(simp (maxDischargeDepth:=12) [go_sem,a0,a1,a2,a3,b0,b1,b2,b3,lta,ltb]))
     clear hK K
     try simp only [Act.put,sA,sB,sC]
     refine wpAnyH_ready (rs:=[7]) gK (by simp) ?_
     refine AllReadyH.cons (o:=qpO7) rfl (fun K hK=>?_) AllReadyH.nil
     try simp only [qpO7]
     go_simp
     refine hK.out _ _ ?_ (fun hHeld=>?_)
     ·((try dsimp only);(simp (maxDischargeDepth:=12) [go_sem,a0,a1,a2,a3,b0,b1,b2,b3,lta,ltb]))
     clear hK K
     try simp only [Act.put,sA,sB,sC]
     refine wpAnyH_done gK ?_ _
     go_wp2_with fail
     go_meet
     exact ⟨_,_,rfl,rfl,⟨gD,gD⟩,⟨gD,gD⟩,gB⟩
   ·
    try simp only [qpO5]
    go_simp
    refine hK.out _ _ ?_ (fun hHeld=>?_)
    ·((try dsimp only);(simp (maxDischargeDepth:=12) [go_sem,a0,a1,a2,a3,b0,b1,b2,b3,lta,ltb]))
    clear hK K
    try simp only [Act.put,sA,sB,sC]
    refine wpAnyH_ready (rs:=[1]) gK (by simp) ?_
    refine AllReadyH.cons (o:=qpO1) rfl (fun K hK=>?_) AllReadyH.nil
    try simp only [qpO1]
    go_simp
    go_wp2_with (go_at_call 147;refine (U _ _ _ _ _).mono ?_;rintro e w1 ⟨rfl,os1,n1,rfl⟩)
    refine hK.out _ _ ?_ (fun hHeld=>?_)
    ·((try dsimp only);(simp (maxDischargeDepth:=12) [go_sem,a0,a1,a2,a3,b0,b1,b2,b3,lta,ltb]))
    clear hK K
    try simp only [Act.put,sA,sB,sC]
    refine wpAnyH_ready (rs:=[3]) gK (by simp) ?_
    refine AllReadyH.cons (o:=qpO3) rfl (fun K hK=>?_) AllReadyH.nil
    try simp only [qpO3]
    go_simp
    go_wp2_with (go_at_call 147;refine (U _ _ _ _ _).mono ?_;rintro e w1 ⟨rfl,os1,n1,rfl⟩)
    refine hK.out _ _ ?_ (fun hHeld=>?_)
    ·((try dsimp only);(simp (maxDischargeDepth:=12) [go_sem,a0,a1,a2,a3,b0,b1,b2,b3,lta,ltb]))
    clear hK K
    try simp only [Act.put,sA,sB,sC]
    refine wpAnyH_ready (rs:=[6]) gK (by simp) ?_
    refine AllReadyH.cons (o:=qpO6) rfl (fun K hK=>?_) AllReadyH.nil
    try simp only [qpO6]
    go_simp
    refine hK.out _ _ ?_ (fun hHeld=>?_)
    ·((try dsimp only);(simp (maxDischargeDepth:=12) [go_sem,a0,a1,a2,a3,b0,b1,b2,b3,lta,ltb]))
    clear hK K
    try simp only [Act.put,sA,sB,sC]
    refine wpAnyH_ready (rs:=[7]) gK (by simp) ?_
    refine AllReadyH.cons (o:=qpO7) rfl (fun K hK=>?_) AllReadyH.nil
    try simp only [qpO7]
    go_simp
    refine hK.out _ _ ?_ (fun hHeld=>?_)
    ·((try dsimp only);(simp (maxDischargeDepth:=12) [go_sem,a0,a1,a2,a3,b0,b1,b2,b3,lta,ltb]))
    clear hK K
    try simp only [Act.put,sA,sB,sC]
    refine wpAnyH_done gK ?_ _
    go_wp2_with fail
    go_meet
    exact ⟨_,_,rfl,rfl,⟨gD,gD⟩,⟨gD,gD⟩,gB⟩
  ·
   try simp only [qpO5]
   go_simp
   refine hK.out _ _ ?_ (fun hHeld=>?_)
   ·((try dsimp only);(simp (maxDischargeDepth:=12) [go_sem,a0,a1,a2,a3,b0,b1,b2,b3,lta,ltb]))
   clear hK K
   try simp only [Act.put,sA,sB,sC]
   refine wpAnyH_ready (rs:=[1,4]) gK (by simp) ?_
   refine AllReadyH.cons (o:=qpO1) rfl (fun K hK=>?_) (AllReadyH.cons (o:=qpO4) rfl (fun K hK=>?_) AllReadyH.nil)
   ·
    try simp only [qpO1]
    go_simp
    go_wp2_with (go_at_call 147;refine (U _ _ _ _ _).mono ?_;rintro e w1 ⟨rfl,os1,n1,rfl⟩)
    refine hK.out _ _ ?_ (fun hHeld=>?_)
    ·((try dsimp only);(simp (maxDischargeDepth:=12) [go_sem,a0,a1,a2,a3,b0,b1,b2,b3,lta,ltb]))
    clear hK K
    try simp only [Act.put,sA,sB,sC]
    refine wpAnyH_ready (rs:=[3,4]) gK (by simp) ?_
    refine AllReadyH.cons (o:=qpO3) rfl (fun K hK=>?_) (AllReadyH.cons (o:=qpO4) rfl (fun K hK=>?_) AllReadyH.nil)
    ·
     try simp only [qpO3]
     go_simp
     go_wp2_with (go_at_call 147;refine (U _ _ _ _ _).mono ?_;rintro e w1 ⟨rfl,os1,n1,rfl⟩)
     refine hK.out _ _ ?_ (fun hHeld=>?_)
     ·((try dsimp only);(simp (maxDischargeDepth:=12) [go_sem,a0,a1,a2,a3,b0,b1,b2,b3,lta,ltb]))
     clear hK K
     try simp only [Act.put,sA,sB,sC]
     refine wpAnyH_ready (rs:=[4]) gK (by simp) ?_
     refine AllReadyH.cons (o:=qpO4) rfl (fun K hK=>?_) AllReadyH.nil
     try simp only [qpO4]
     go_simp
     refine hK.out _ _ ?_ (fun hHeld=>?_)
     ·((try dsimp only);(simp (maxDischargeDepth:=12) [go_sem,a0,a1,a2,a3,b0,b1,b2,b3,lta,ltb]))
     clear hK K
     try simp only [Act.put,sA,sB,sC]
     refine wpAnyH_ready (rs:=[6]) gK (by simp) ?_
     refine AllReadyH.cons (o:=qpO6) rfl (fun K hK=>?_) AllReadyH.nil
     try simp only [qpO6]
     go_simp
     refine hK.out _ _ ?_ (fun hHeld=>?_)
     ·((try dsimp only);(simp (maxDischargeDepth:=12) [go_sem,a0,a1,a2,a3,b0,b1,b2,b3,lta,ltb]))
     clear hK K
     try simp only [Act.put,sA,sB,sC]
     refine wpAnyH_ready (rs:=[7]) gK (by simp) ?_
     refine AllReadyH.cons (o:=qpO7) rfl (fun K hK=>?_) AllReadyH.nil
     try simp only [qpO7]
     go_simp
     refine hK.out _ _ ?_ (fun hHeld=>?_)
     ·((try dsimp only);(simp (maxDischargeDepth:=12) [go_sem,a0,a1,a2,a3,b0,b1,b2,b3,lta,ltb]))
     clear hK K
     try simp only [Act.put,sA,sB,sC]
     refine wpAnyH_done gK ?_ _
     go_wp2_with fail
     go_meet
     exact ⟨_,_,rfl,rfl,⟨gD,gD⟩,⟨gD,gD⟩,gB⟩
    ·
     try simp only [qpO4]
     go_simp
     refine hK.out _ _ ?_ (fun hHeld=>?_)
     ·((try dsimp only);(simp (maxDischargeDepth:=12) [go_sem,a0,a1,a2,a3,b0,b1,b2,b3,lta,ltb]))
     clear hK K
     try simp only [Act.put,sA,sB,sC]
     refine wpAnyH_ready (rs:=[3]) gK (by simp) ?_
     refine AllReadyH.cons (o:=qpO3) rfl (fun K hK=>?_) AllReadyH.nil
     try simp only [qpO3]
     go_simp
     go_wp2_with (go_at_call 147;refine (U _ _ _ _ _).mono ?_;rintro e w1 ⟨rfl,os1,n1,rfl⟩)
     refine hK.out _ _ ?_ (fun hHeld=>?_)
     ·((try dsimp only);(simp (maxDischargeDepth:=12) [go_sem,a0,a1,a2,a3,b0,b1,b2,b3,lta,ltb]))
     clear hK K
     try simp only [Act.put,sA,sB,sC]
     refine wpAnyH_ready (rs:=[6]) gK (by simp) ?_
     refine AllReadyH.cons (o:=qpO6) rfl (fun K hK=>?_) AllReadyH.nil
     try simp only [qpO6]
     go_simp
     refine hK.out _ _ ?_ (fun hHeld=>?_)
     ·((try dsimp only);(simp (maxDischargeDepth:=12) [go_sem,a0,a1,a2,a3,b0,b1,b2,b3,lta,ltb]))
     clear hK K
     try simp only [Act.put,sA,sB,sC]
     refine wpAnyH_ready (rs:=[7]) gK (by simp) ?_
     refine AllReadyH.cons (o:=qpO7) rfl (fun K hK=>?_) AllReadyH.nil
     try simp only [qpO7]
     go_simp
     refine hK.out _ _ ?_ (fun hHeld=>?_)
     ·((try dsimp only);(simp (maxDischargeDepth:=12) [go_sem,a0,a1,a2,a3,b0,b1,b2,b3,lta,ltb]))
     clear hK K
     try simp only [Act.put,sA,sB,sC]
     refine wpAnyH_done gK ?_ _
     go_wp2_with fail
     go_meet
     exact ⟨_,_,rfl,rfl,⟨gD,gD⟩,⟨gD,gD⟩,gB⟩
   ·
    try simp only [qpO4]
    go_simp
    refine hK.out _ _ ?_ (fun hHeld=>?_)
    ·((try dsimp only);(simp (maxDischargeDepth:=12) [go_sem,a0,a1,a2,a3,b0,b1,b2,b3,lta,ltb]))
    clear hK K
    try simp only [Act.put,sA,sB,sC]
    refine wpAnyH_ready (rs:=[1]) gK (by simp) ?_
    refine AllReadyH.cons (o:=qpO1) rfl (fun K hK=>?_) AllReadyH.nil
    try simp only [qpO1]
    go_simp
    go_wp2_with (go_at_call 147;refine (U _ _ _ _ _).mono ?_;rintro e w1 ⟨rfl,os1,n1,rfl⟩)
    refine hK.out _ _ ?_ (fun hHeld=>?_)
    ·((try dsimp only);(simp (maxDischargeDepth:=12) [go_sem,a0,a1,a2,a3,b0,b1,b2,b3,lta,ltb]))
    clear hK K
    try simp only [Act.put,sA,sB,sC]
    refine wpAnyH_ready (rs:=[3]) gK (by simp) ?_
    refine AllReadyH.cons (o:=qpO3) rfl (fun K hK=>?_) AllReadyH.nil
    try simp only [qpO3]
    go_simp
    go_wp2_with (go_at_call 147;refine (U _ _ _ _ _).mono ?_;rintro e w1 ⟨rfl,os1,n1,rfl⟩)
    refine hK.out _ _ ?_ (fun hHeld=>?_)
    ·((try dsimp only);(simp (maxDischargeDepth:=12) [go_sem,a0,a1,a2,a3,b0,b1,b2,b3,lta,ltb]))
    clear hK K
    try simp only [Act.put,sA,sB,sC]
    refine wpAnyH_ready (rs:=[6]) gK (by simp) ?_
    refine AllReadyH.cons (o:=qpO6) rfl (fun K hK=>?_) AllReadyH.nil
    try simp only [qpO6]
    go_simp
    refine hK.out _ _ ?_ (fun hHeld=>?_)
    ·((try dsimp only);(simp (maxDischargeDepth:=12) [go_sem,a0,a1,a2,a3,b0,b1,b2,b3,lta,ltb]))
    clear hK K
    try simp only [Act.put,sA,sB,sC]
    refine wpAnyH_ready (rs:=[7]) gK (by simp) ?_
    refine AllReadyH.cons (o:=qpO7) rfl (fun K hK=>?_) AllReadyH.nil
    try simp only [qpO7]
    go_simp
    refine hK.out _ _ ?_ (fun hHeld=>?_)
    ·((try dsimp only);(simp (maxDischargeDepth:=12) [go_sem,a0,a1,a2,a3,b0,b1,b2,b3,lta,ltb]))
    clear hK K
    try simp only [Act.put,sA,sB,sC]
    refine wpAnyH_done gK ?_ _
    go_wp2_with fail
    go_meet
    exact ⟨_,_,rfl,rfl,⟨gD,gD⟩,⟨gD,gD⟩,gB⟩
 rename World=>w1
 obtain ⟨p,q,rfl,rfl,hp,hq,g⟩:=hcut
 have B1:=g.below
 replace lta:=(bxa.later B1).lt
 replace ltb:=(bxb.later B1).lt
 clear a0 a1 a2 a3 b0 b1 b2 b3
 obtain ⟨a0,a1,a2,a3⟩:=(bxa.later B1).at4
 obtain ⟨b0,b1,b2,b3⟩:=(bxb.later B1).at4
 dsimp only at a0 a1 a2 a3 b0 b1 b2 b3
 simp only [Nat.zero_add] at a1 a2 a3 b1 b2 b3
 have br:=bxr.later B1
 obtain ⟨r0,r1,r2,r3⟩:=br.at4
 dsimp only [nul] at r0 r1 r2 r3
 simp only [Nat.zero_add] at r1 r2 r3
 have f0:=br.free 0
 have f1:=br.free 1
 have f2:=br.free 2
 have f3:=br.free 3
 have lt1:=br.lt
 have Be:=z0a Bw B1
 obtain ⟨p0,p1⟩:=id hp
 obtain ⟨q0,q1⟩:=id hq
 have lp:=hp.lt
 have lq:=hq.lt
 have bxr1:=br
 clear U g B1 bxa bxb bxr ltr hp hq br
 by_cases h9:op=9
 ·subst h9
  have hr':=hr.out
  rw [if_pos rfl] at hr'
  subst hr'
  clear hr
  clear D D10 D6 D7 HC
  go_wp2_with (first
   | (go_at_call 167;refine (D9 _).mono ?_;rintro e w2 ⟨rfl,os1,n1,rfl⟩)
   | (go_at_call 154;refine (H _ _ _ _).mono ?_;rintro e w2 ⟨rfl,os2,n2,rfl⟩))
  refine bodyPost_ret_by (v:=rs (z0z x9 y9 z9)) ?_ rfl ⟨rfl,?_⟩
  ·simp [results,Tryz.results122,go_sem,r0,r1,r2,r3,lt1]
  ·refine z0a (Be.setCell (p:=⟨w.heap.size+1+1,0,none⟩) (by simp;omega) (.int .i64 (z0z x9 y9 z9).1.k) |>.setCell (p:=⟨w.heap.size+1+1,1,none⟩) (by simp;omega) (.int .i64 (z0z x9 y9 z9).1.n) |>.setCell (p:=⟨w.heap.size+1+1,2,none⟩) (by simp;omega) (.int .i64 (z0z x9 y9 z9).1.m) |>.setCell (p:=⟨w.heap.size+1+1,3,none⟩) (by simp;omega) (.string ⟨(z0z x9 y9 z9).1.b.toArray⟩)) (Grew.below ?_)
   repeat exact gB
 have c9:(op==9)=false:=by simpa using h9
 by_cases h10:op=10
 ·subst h10
  have hr':=hr.out
  rw [if_neg (by decide),if_pos rfl] at hr'
  subst hr'
  clear hr
  clear D D9 D6 D7 HC
  go_wp2_with (first
   | (go_at_call 168;refine (D10 _).mono ?_;rintro e w2 ⟨rfl,os1,n1,rfl⟩)
   | (go_at_call 154;refine (H _ _ _ _).mono ?_;rintro e w2 ⟨rfl,os2,n2,rfl⟩))
  refine bodyPost_ret_by (v:=rs (z0z x10 y10 z10)) ?_ rfl ⟨rfl,?_⟩
  ·simp [results,Tryz.results122,go_sem,r0,r1,r2,r3,lt1]
  ·refine z0a (Be.setCell (p:=⟨w.heap.size+1+1,0,none⟩) (by simp;omega) (.int .i64 (z0z x10 y10 z10).1.k) |>.setCell (p:=⟨w.heap.size+1+1,1,none⟩) (by simp;omega) (.int .i64 (z0z x10 y10 z10).1.n) |>.setCell (p:=⟨w.heap.size+1+1,2,none⟩) (by simp;omega) (.int .i64 (z0z x10 y10 z10).1.m) |>.setCell (p:=⟨w.heap.size+1+1,3,none⟩) (by simp;omega) (.string ⟨(z0z x10 y10 z10).1.b.toArray⟩)) (Grew.below ?_)
   repeat exact gB
 have c10:(op==10)=false:=by simpa using h10
 by_cases h6:op=6
 ·subst h6
  have hr':=hr.out
  rw [if_neg (by decide),if_neg (by decide),if_pos rfl] at hr'
  subst hr'
  clear hr
  clear D D9 D10 D7 HC
  go_wp2_with (first
   | (go_at_call 169;refine (D6 _).mono ?_;rintro e w2 ⟨rfl,os1,n1,rfl⟩)
   | (go_at_call 154;refine (H _ _ _ _).mono ?_;rintro e w2 ⟨rfl,os2,n2,rfl⟩))
  refine bodyPost_ret_by (v:=rs (z0z x6 y6 z6)) ?_ rfl ⟨rfl,?_⟩
  ·simp [results,Tryz.results122,go_sem,r0,r1,r2,r3,lt1]
  ·refine z0a (Be.setCell (p:=⟨w.heap.size+1+1,0,none⟩) (by simp;omega) (.int .i64 (z0z x6 y6 z6).1.k) |>.setCell (p:=⟨w.heap.size+1+1,1,none⟩) (by simp;omega) (.int .i64 (z0z x6 y6 z6).1.n) |>.setCell (p:=⟨w.heap.size+1+1,2,none⟩) (by simp;omega) (.int .i64 (z0z x6 y6 z6).1.m) |>.setCell (p:=⟨w.heap.size+1+1,3,none⟩) (by simp;omega) (.string ⟨(z0z x6 y6 z6).1.b.toArray⟩)) (Grew.below ?_)
   repeat exact gB
 have c6:(op==6)=false:=by simpa using h6
 by_cases h7:op=7
 ·subst h7
  have hr':=hr.out
  rw [if_neg (by decide),if_neg (by decide),if_neg (by decide),if_pos rfl] at hr'
  subst hr'
  clear hr
  clear D D9 D10 D6 HC
  go_wp2_with (first
   | (go_at_call 170;refine (D7 _).mono ?_;rintro e w2 ⟨rfl,os1,n1,rfl⟩)
   | (go_at_call 154;refine (H _ _ _ _).mono ?_;rintro e w2 ⟨rfl,os2,n2,rfl⟩))
  refine bodyPost_ret_by (v:=rs (z0z x7 y7 z7)) ?_ rfl ⟨rfl,?_⟩
  ·simp [results,Tryz.results122,go_sem,r0,r1,r2,r3,lt1]
  ·refine z0a (Be.setCell (p:=⟨w.heap.size+1+1,0,none⟩) (by simp;omega) (.int .i64 (z0z x7 y7 z7).1.k) |>.setCell (p:=⟨w.heap.size+1+1,1,none⟩) (by simp;omega) (.int .i64 (z0z x7 y7 z7).1.n) |>.setCell (p:=⟨w.heap.size+1+1,2,none⟩) (by simp;omega) (.int .i64 (z0z x7 y7 z7).1.m) |>.setCell (p:=⟨w.heap.size+1+1,3,none⟩) (by simp;omega) (.string ⟨(z0z x7 y7 z7).1.b.toArray⟩)) (Grew.below ?_)
   repeat exact gB
 have c7:(op==7)=false:=by simpa using h7
 by_cases h8:op=8
 ·subst h8
  have hr':=hr.out
  rw [if_neg (by decide),if_neg (by decide),if_neg (by decide),if_neg (by decide),if_pos rfl] at hr'
  subst hr'
  clear hr
  clear D D9 D10 D6 HC
  go_wp2_with (first
   | (go_at_call 170;refine (D7 _).mono ?_;rintro e w2 ⟨rfl,os1,n1,rfl⟩)
   | (go_at_call 154;refine (H _ _ _ _).mono ?_;rintro e w2 ⟨rfl,os2,n2,rfl⟩))
  refine bodyPost_ret_by (v:=rs (z0z x8 y8 z7)) ?_ rfl ⟨rfl,?_⟩
  ·simp [results,Tryz.results122,go_sem,r0,r1,r2,r3,lt1]
  ·refine z0a (Be.setCell (p:=⟨w.heap.size+1+1,0,none⟩) (by simp;omega) (.int .i64 (z0z x8 y8 z7).1.k) |>.setCell (p:=⟨w.heap.size+1+1,1,none⟩) (by simp;omega) (.int .i64 (z0z x8 y8 z7).1.n) |>.setCell (p:=⟨w.heap.size+1+1,2,none⟩) (by simp;omega) (.int .i64 (z0z x8 y8 z7).1.m) |>.setCell (p:=⟨w.heap.size+1+1,3,none⟩) (by simp;omega) (.string ⟨(z0z x8 y8 z7).1.b.toArray⟩)) (Grew.below ?_)
   repeat exact gB
 have c8:(op==8)=false:=by simpa using h8
 have hr':=hr.out
 rw [if_neg h9,if_neg h10,if_neg h6,if_neg h7,if_neg h8] at hr'
 subst hr'
 clear hr
 clear D9 D10 D6 D7 H f0 f1 f2 f3 r0 r1 r2 r3 lt1
 go_wp2_with fail
 refine (D _ Be).mono ?_
 rintro e w2 ⟨rfl,B2⟩
 have br:=bxr1.later B2
 obtain ⟨r0,r1,r2,r3⟩:=br.at4
 dsimp only [nul] at r0 r1 r2 r3
 simp only [Nat.zero_add] at r1 r2 r3
 have f0:=br.free 0
 have f1:=br.free 1
 have f2:=br.free 2
 have f3:=br.free 3
 have lt1:=br.lt
 replace Be:=z0a Be B2
 clear D a0 a1 a2 a3 b0 b1 b2 b3 p0 p1 q0 q1 br bxr1 lp lq lta ltb
 go_wp2_with (go_at_call 124;refine (HC _).mono ?_;rintro e w3 ⟨rfl,os2,n2,rfl⟩)
 refine bodyPost_ret_by (v:=rs (cmpR op c)) ?_ rfl ⟨rfl,?_⟩
 ·simp [results,Tryz.results122,go_sem,r0,r1,r2,r3,lt1]
 ·refine z0a (Be.setCell (p:=⟨w.heap.size+1+1,0,none⟩) (by simp;omega) (.int .i64 (cmpR op c).1.k) |>.setCell (p:=⟨w.heap.size+1+1,1,none⟩) (by simp;omega) (.int .i64 (cmpR op c).1.n) |>.setCell (p:=⟨w.heap.size+1+1,2,none⟩) (by simp;omega) (.int .i64 (cmpR op c).1.m) |>.setCell (p:=⟨w.heap.size+1+1,3,none⟩) (by simp;omega) (.string ⟨(cmpR op c).1.b.toArray⟩)) (Grew.below ?_)
  repeat exact gB
end Go.Proofs.YtljkonkfeiojnaaGreatDoor
