/-
  eval.called, name by name.
  eval.Function.
  eval.Function, whole.
-/
import Derived.Test.YtljkonkfeiojnaaGreatDoorMQQUn
import Derived.Test.YtljkonkfeiojnaaGreatDoorMRQFun2
import Derived.Test.YtljkonkfeiojnaaGreatDoorMMHTurn
set_option maxHeartbeats 20000000
set_option maxRecDepth 20000
namespace Go.Proofs.YtljkonkfeiojnaaGreatDoor
open Go.RowKit Go.Shelf
attribute [local go_sem] z0f z0b z0c z0e z0m z0k z0h z0d z0g z2n z1u z3k z1v z2m z2q z3h z2p z3g z2d z2r
inductive QC1 (w:World) (ak an am:Int) (ab:List UInt8):ByteArray→Value→Prop
 | length_no (e3:(ak==3)=false):QC1 w ak an am ab (⟨#[108,101,110,103,116,104]⟩) (.tuple #[va 0 0 0 ⟨#[]⟩,.int .i64 31])
 | abs1 (ka:ak=1) (rk rn rm re:Int) (rb:ByteArray) (F:z0s 145 #[va 1 an am ⟨ab.toArray⟩] w (.tuple #[va rk rn rm rb,.int .i64 re])):QC1 w ak an am ab (⟨#[97,98,115]⟩) (.tuple #[va rk rn rm rb,.int .i64 re])
 | abs2 (ka:ak=2) (rk rn rm re:Int) (rb:ByteArray) (F:z0s 145 #[va 2 an am ⟨ab.toArray⟩] w (.tuple #[va rk rn rm rb,.int .i64 re])):QC1 w ak an am ab (⟨#[97,98,115]⟩) (.tuple #[va rk rn rm rb,.int .i64 re])
 | abs_no (e1:(ak==1)=false) (e2:(ak==2)=false):QC1 w ak an am ab (⟨#[97,98,115]⟩) (.tuple #[va 0 0 0 ⟨#[]⟩,.int .i64 31])
 | norm (ka:ak=5)  (x:Int) (D:∀ W,Calls Tryz.prog 146 #[dv an am] W fun e w'=>e=.returned (.int .i64 x)∧Grew W w'):QC1 w ak an am ab (⟨#[110,111,114,109]⟩) (rs (z1e x 0))
 | norm_no (e5:(ak==5)=false):QC1 w ak an am ab (⟨#[110,111,114,109]⟩) (.tuple #[va 0 0 0 ⟨#[]⟩,.int .i64 31])
 | px (ka:ak=5):QC1 w ak an am ab (⟨#[112,120]⟩) (rs (z1e an 0))
 | px_no (e5:(ak==5)=false):QC1 w ak an am ab (⟨#[112,120]⟩) (.tuple #[va 0 0 0 ⟨#[]⟩,.int .i64 31])
 | py (ka:ak=5):QC1 w ak an am ab (⟨#[112,121]⟩) (rs (z1e am 0))
 | py_no (e5:(ak==5)=false):QC1 w ak an am ab (⟨#[112,121]⟩) (.tuple #[va 0 0 0 ⟨#[]⟩,.int .i64 31])
 | length (ka:ak=3):QC1 w ak an am ab (⟨#[108,101,110,103,116,104]⟩) (rs (z1e (ab.length:Int) 0))
theorem z6q {nm:ByteArray} {R:Value} (ak:Int) (bl off cap:Nat) (an am:Int) (ab:List UInt8) (w:World) (hg:bl<w.heap.size) (c0:w.cell? ⟨bl,off,none⟩=some (.int .i64 ak)) (c1:w.cell? ⟨bl,off+1,none⟩=some (.int .i64 an)) (c2:w.cell? ⟨bl,off+2,none⟩=some (.int .i64 am)) (c3:w.cell? ⟨bl,off+3,none⟩=some (.string ⟨ab.toArray⟩))
  (C:QC1 w ak an am ab nm R)
:
  Calls Tryz.prog 113 #[.string nm,.slice (some ⟨bl,off,none⟩) 1 cap] w fun e w'=>e=.returned R∧Below w.heap.size w w':=by
 obtain ⟨w0,hw0,bxr,Bw⟩:=z6s w
 have z0:IntKind.i64.wrap 0=0:=by rw [IntKind.wrap_i64];rfl
 go_enter Tryz.func113,Tryz.ntmps113
 go_wp2_with fail
 rw [← hw0]
 clear hw0
 rw [← Bw.cell (p:=⟨bl,off,none⟩) hg] at c0
 rw [← Bw.cell (p:=⟨bl,off+1,none⟩) hg] at c1
 rw [← Bw.cell (p:=⟨bl,off+2,none⟩) hg] at c2
 rw [← Bw.cell (p:=⟨bl,off+3,none⟩) hg] at c3
 replace hg:bl<w0.heap.size:=Nat.lt_of_lt_of_le hg Bw.size
 go_cut [6,7] from 8 (fun s0 s1 wx=>∃ p q:Nat,s0=.pointer (some ⟨p,0,none⟩)∧s1=.pointer (some ⟨q,0,none⟩)∧(wx.cell? ⟨p,0,none⟩=some (.int .i64 ak)∧wx.cell? ⟨p,1,none⟩=some (.int .i64 an)∧wx.cell? ⟨p,2,none⟩=some (.int .i64 am)∧wx.cell? ⟨p,3,none⟩=some (.string ⟨ab.toArray⟩))∧(wx.cell? ⟨q,0,none⟩=some (.int .i64 ak)∧wx.cell? ⟨q,1,none⟩=some (.int .i64 an)∧wx.cell? ⟨q,2,none⟩=some (.int .i64 am)∧wx.cell? ⟨q,3,none⟩=some (.string ⟨ab.toArray⟩))∧w0.heap.size≤p∧w0.heap.size≤q∧Grew w0 wx)
 case first =>
  refine wp_region_held_drew (S:=(fun W=>W.cell? ⟨bl,off,none⟩=some (.int .i64 ak)∧W.cell? ⟨bl,off+1,none⟩=some (.int .i64 an)∧W.cell? ⟨bl,off+2,none⟩=some (.int .i64 am)∧W.cell? ⟨bl,off+3,none⟩=some (.string ⟨ab.toArray⟩))) gK ?_ (fun hHeld=>?_)
  ·((try dsimp only);(simp (maxDischargeDepth:=12) [go_sem,c0,c1,c2,c3]))
  refine wpAnyH_take (i:=0) (oi:=qcO0) (v:=?_) rfl gK gK gK (fun _ _ _ h=>h) (Or.inl ⟨by rfl,?_⟩) (by assumption) ?_
  rotate_left
  ·(intro W hSw;(try dsimp only at hSw);try simp only [qcO0];first|(go_simp;done)|(go_simp;with_reducible rfl))
  try simp only [qcO0,Act.put,List.setIfInBounds_toArray,List.set_cons_zero,List.set_cons_succ]
  refine wpAnyH_take (i:=1) (oi:=qcO1) (v:=?_) rfl gK gK gK (fun _ _ _ h=>h) (Or.inl ⟨by rfl,?_⟩) (by assumption) ?_
  rotate_left
  ·(intro W hSw;(try dsimp only at hSw);try simp only [qcO1];first|(go_simp;done)|(go_simp;with_reducible rfl))
  try simp only [qcO1,Act.put,List.setIfInBounds_toArray,List.set_cons_zero,List.set_cons_succ]
  refine wpAnyH_take (i:=2) (oi:=qcO2) (v:=?_) rfl gK gK gK (fun _ _ _ h=>h) (Or.inl ⟨by rfl,?_⟩) (by assumption) ?_
  rotate_left
  ·(intro W hSw;(try dsimp only at hSw);try simp only [qcO2];first|(go_simp;done)|(go_simp;with_reducible rfl))
  try simp only [qcO2,Act.put,List.setIfInBounds_toArray,List.set_cons_zero,List.set_cons_succ]
  refine wpAnyH_take (i:=3) (oi:=qcO3) (v:=?_) rfl gK gK gK (fun _ _ _ h=>h) (Or.inl ⟨by rfl,?_⟩) (by assumption) ?_
  rotate_left
  ·(intro W hSw;(try dsimp only at hSw);try simp only [qcO3];first|(go_simp;done)|(go_simp;with_reducible rfl))
  try simp only [qcO3,Act.put,List.setIfInBounds_toArray,List.set_cons_zero,List.set_cons_succ]
  refine wpAnyH_take (i:=4) (oi:=qcO4) (v:=?_) rfl gK gK gK (fun _ _ _ h=>h) (Or.inl ⟨by rfl,?_⟩) (by assumption) ?_
  rotate_left
  ·(intro W hSw;(try dsimp only at hSw);try simp only [qcO4];first|(go_simp;done)|(go_simp;with_reducible rfl))
  try simp only [qcO4,Act.put,List.setIfInBounds_toArray,List.set_cons_zero,List.set_cons_succ]
  refine wpAnyH_take (i:=5) (oi:=qcO5) (v:=?_) rfl gK gK gK (fun _ _ _ h=>h) (Or.inl ⟨by rfl,?_⟩) (by assumption) ?_
  rotate_left
  ·(intro W hSw;(try dsimp only at hSw);try simp only [qcO5];first|(go_simp;done)|(go_simp;with_reducible rfl))
  try simp only [qcO5,Act.put,List.setIfInBounds_toArray,List.set_cons_zero,List.set_cons_succ]
  refine wpAnyH_take (i:=6) (oi:=qcO6) (v:=?_) rfl gK gK gK (fun _ _ _ h=>h) (Or.inl ⟨by rfl,?_⟩) (by assumption) ?_
  rotate_left
  ·(intro W hSw;(try dsimp only at hSw);try simp only [qcO6];first|(go_simp;done)|(go_simp;with_reducible rfl))
  try simp only [qcO6,Act.put,List.setIfInBounds_toArray,List.set_cons_zero,List.set_cons_succ]
  refine wpAnyH_take (i:=7) (oi:=qcO7) (v:=?_) rfl gK gK gK (fun _ _ _ h=>h) (Or.inl ⟨by rfl,?_⟩) (by assumption) ?_
  rotate_left
  ·(intro W hSw;(try dsimp only at hSw);try simp only [qcO7];first|(go_simp;done)|(go_simp;with_reducible rfl))
  try simp only [qcO7,Act.put,List.setIfInBounds_toArray,List.set_cons_zero,List.set_cons_succ]
  refine wpAnyH_take (i:=8) (oi:=qcO8) (v:=?_) rfl gK gK gK (fun _ _ _ h=>h) (Or.inl ⟨by rfl,?_⟩) (by assumption) ?_
  rotate_left
  ·(intro W hSw;(try dsimp only at hSw);try simp only [qcO8];first|(go_simp;done)|(go_simp;with_reducible rfl))
  try simp only [qcO8,Act.put,List.setIfInBounds_toArray,List.set_cons_zero,List.set_cons_succ]
  refine wpAnyH_ready (rs:=[9,10]) gK (by simp) ?_
  refine AllReadyH.cons (o:=qcO9) rfl (fun K hK=>?_) (AllReadyH.cons (o:=qcO10) rfl (fun K hK=>?_) AllReadyH.nil)
  ·
   try simp only [qcO9]
   go_simp
   refine hK.out _ _ ?_ (fun hHeld=>?_)
   ·((try dsimp only);(simp (maxDischargeDepth:=12) [go_sem,c0,c1,c2,c3,hg]))
   clear hK K
   try simp only [Act.put,sA,sB,sC]
   refine wpAnyH_ready (rs:=[10]) gK (by simp) ?_
   refine AllReadyH.cons (o:=qcO10) rfl (fun K hK=>?_) AllReadyH.nil
   try simp only [qcO10]
   go_simp
   refine hK.out _ _ ?_ (fun hHeld=>?_)
   ·((try dsimp only);(simp (maxDischargeDepth:=12) [go_sem,c0,c1,c2,c3,hg]))
   clear hK K
   try simp only [Act.put,sA,sB,sC]
   refine wpAnyH_ready (rs:=[11]) gK (by simp) ?_
   refine AllReadyH.cons (o:=qcO11) rfl (fun K hK=>?_) AllReadyH.nil
   try simp only [qcO11]
   go_simp
   refine hK.out _ _ ?_ (fun hHeld=>?_)
   ·((try dsimp only);(simp (maxDischargeDepth:=12) [go_sem,c0,c1,c2,c3,hg]))
   clear hK K
   try simp only [Act.put,sA,sB,sC]
   refine wpAnyH_ready (rs:=[12]) gK (by simp) ?_
   refine AllReadyH.cons (o:=qcO12) rfl (fun K hK=>?_) AllReadyH.nil
   try simp only [qcO12]
   go_simp
   refine hK.out _ _ ?_ (fun hHeld=>?_)
   ·((try dsimp only);(simp (maxDischargeDepth:=12) [go_sem,c0,c1,c2,c3,hg]))
   clear hK K
   try simp only [Act.put,sA,sB,sC]
   refine wpAnyH_done gK ?_ _
   go_wp2_with fail
   go_meet
   exact ⟨_,_,rfl,rfl,⟨gD,gD,gD,gD⟩,⟨gD,gD,gD,gD⟩,by simp,by simp,gB⟩
  ·
   try simp only [qcO10]
   go_simp
   refine hK.out _ _ ?_ (fun hHeld=>?_)
   ·((try dsimp only);(simp (maxDischargeDepth:=12) [go_sem,c0,c1,c2,c3,hg]))
   clear hK K
   try simp only [Act.put,sA,sB,sC]
   refine wpAnyH_ready (rs:=[9]) gK (by simp) ?_
   refine AllReadyH.cons (o:=qcO9) rfl (fun K hK=>?_) AllReadyH.nil
   try simp only [qcO9]
   go_simp
   refine hK.out _ _ ?_ (fun hHeld=>?_)
   ·((try dsimp only);(simp (maxDischargeDepth:=12) [go_sem,c0,c1,c2,c3,hg]))
   clear hK K
   try simp only [Act.put,sA,sB,sC]
   refine wpAnyH_ready (rs:=[11]) gK (by simp) ?_
   refine AllReadyH.cons (o:=qcO11) rfl (fun K hK=>?_) AllReadyH.nil
   try simp only [qcO11]
   go_simp
   refine hK.out _ _ ?_ (fun hHeld=>?_)
   ·((try dsimp only);(simp (maxDischargeDepth:=12) [go_sem,c0,c1,c2,c3,hg]))
   clear hK K
   try simp only [Act.put,sA,sB,sC]
   refine wpAnyH_ready (rs:=[12]) gK (by simp) ?_
   refine AllReadyH.cons (o:=qcO12) rfl (fun K hK=>?_) AllReadyH.nil
   try simp only [qcO12]
   go_simp
   refine hK.out _ _ ?_ (fun hHeld=>?_)
   ·((try dsimp only);(simp (maxDischargeDepth:=12) [go_sem,c0,c1,c2,c3,hg]))
   clear hK K
   try simp only [Act.put,sA,sB,sC]
   refine wpAnyH_done gK ?_ _
   go_wp2_with fail
   go_meet
   exact ⟨_,_,rfl,rfl,⟨gD,gD,gD,gD⟩,⟨gD,gD,gD,gD⟩,by simp,by simp,gB⟩
 rename World=>w1
 obtain ⟨p,q,rfl,rfl,⟨p0,p1,p2,p3⟩,⟨q0,q1,q2,q3⟩,gp,gq,g⟩:=hcut
 have lp:=World.block_lt_of_cell? w1 _ p0
 have lq:=World.block_lt_of_cell? w1 _ q0
 have B1:=g.below
 have br:=bxr.later B1
 obtain ⟨r0,r1,r2,r3⟩:=br.at4
 dsimp only [nul] at r0 r1 r2 r3
 simp only [Nat.zero_add] at r1 r2 r3
 have f0:=br.free 0
 have f1:=br.free 1
 have f2:=br.free 2
 have f3:=br.free 3
 have lt1:=br.lt
 have Be:=z0a Bw B1
 have lr:=bxr.lt
 have np:¬ w.heap.size=p:=by omega
 have nq:¬ w.heap.size=q:=by omega
 clear gp gq lr
 clear br bxr g c0 c1 c2 c3 hg
 cases C with
 | length_no e3 =>
  go_wp2
  refine bodyPost_ret_by (v:=.tuple #[va 0 0 0 ⟨#[]⟩,.int .i64 31]) ?_ rfl ⟨rfl,?_⟩
  ·simp [results,Tryz.results113,go_sem,r0,r1,r2,r3]
  ·refine z0a (Be.setCell (p:=⟨w.heap.size,0,none⟩) (Nat.le_refl _) (.int .i64 0) |>.setCell (p:=⟨w.heap.size,1,none⟩) (Nat.le_refl _) (.int .i64 0) |>.setCell (p:=⟨w.heap.size,2,none⟩) (Nat.le_refl _) (.int .i64 0) |>.setCell (p:=⟨w.heap.size,3,none⟩) (Nat.le_refl _) (.string ⟨#[]⟩)) (Grew.below ?_)
   repeat exact gB
 | abs1 ka rk rn rm re rb F =>
  subst ka
  go_wp2_with (first
   | (go_at_call 119;refine (z2e _ _ _ _ _).mono ?_;rintro e w2 ⟨rfl,os0,n0,rfl⟩)
   | (go_at_call 145;refine (F _ (z0a Be (z1z.below gC))).mono ?_;rintro e w2 ⟨rfl,bc⟩;obtain ⟨osc,dc,rfl⟩:=wide bc;clear bc))
  refine bodyPost_ret_by (v:=.tuple #[va rk rn rm rb,.int .i64 re]) ?_ rfl ⟨rfl,?_⟩
  ·simp [results,Tryz.results113,go_sem,r0,r1,r2,r3,lt1]
  ·refine z0a (Be.setCell (p:=⟨w.heap.size,0,none⟩) (Nat.le_refl _) (.int .i64 rk) |>.setCell (p:=⟨w.heap.size,1,none⟩) (Nat.le_refl _) (.int .i64 rn) |>.setCell (p:=⟨w.heap.size,2,none⟩) (Nat.le_refl _) (.int .i64 rm) |>.setCell (p:=⟨w.heap.size,3,none⟩) (Nat.le_refl _) (.string rb)) (z1z.below ?_)
   repeat exact gC
 | abs2 ka rk rn rm re rb F =>
  subst ka
  go_wp2_with (first
   | (go_at_call 119;refine (z2e _ _ _ _ _).mono ?_;rintro e w2 ⟨rfl,os0,n0,rfl⟩)
   | (go_at_call 145;refine (F _ (z0a Be (z1z.below gC))).mono ?_;rintro e w2 ⟨rfl,bc⟩;obtain ⟨osc,dc,rfl⟩:=wide bc;clear bc))
  refine bodyPost_ret_by (v:=.tuple #[va rk rn rm rb,.int .i64 re]) ?_ rfl ⟨rfl,?_⟩
  ·simp [results,Tryz.results113,go_sem,r0,r1,r2,r3,lt1]
  ·refine z0a (Be.setCell (p:=⟨w.heap.size,0,none⟩) (Nat.le_refl _) (.int .i64 rk) |>.setCell (p:=⟨w.heap.size,1,none⟩) (Nat.le_refl _) (.int .i64 rn) |>.setCell (p:=⟨w.heap.size,2,none⟩) (Nat.le_refl _) (.int .i64 rm) |>.setCell (p:=⟨w.heap.size,3,none⟩) (Nat.le_refl _) (.string rb)) (z1z.below ?_)
   repeat exact gC
 | abs_no e1 e2 =>
  go_wp2_with (first
   | (go_at_call 119;refine (z2e _ _ _ _ _).mono ?_;rintro e w2 ⟨rfl,os0,n0,rfl⟩))
  refine bodyPost_ret_by (v:=.tuple #[va 0 0 0 ⟨#[]⟩,.int .i64 31]) ?_ rfl ⟨rfl,?_⟩
  ·simp [results,Tryz.results113,go_sem,r0,r1,r2,r3,lt1]
  ·refine z0a (Be.setCell (p:=⟨w.heap.size,0,none⟩) (Nat.le_refl _) (.int .i64 0) |>.setCell (p:=⟨w.heap.size,1,none⟩) (Nat.le_refl _) (.int .i64 0) |>.setCell (p:=⟨w.heap.size,2,none⟩) (Nat.le_refl _) (.int .i64 0) |>.setCell (p:=⟨w.heap.size,3,none⟩) (Nat.le_refl _) (.string ⟨#[]⟩)) (Grew.below ?_)
   repeat exact gB
 | norm ka x D =>
  subst ka
  go_wp2_with (first
   | (go_at_call 147;refine (z8q _ _ _ _ _).mono ?_;rintro e w2 ⟨rfl,os0,n0,rfl⟩)
   | (go_at_call 146;refine (D _).mono ?_;rintro e w2 ⟨rfl,os1,n1,rfl⟩)
   | (go_at_call 144;refine (z2h _ _ _).mono ?_;rintro e w2 ⟨rfl,os2,n2,rfl⟩))
  refine bodyPost_ret_by (v:=rs (z1e x 0)) ?_ rfl ⟨rfl,?_⟩
  ·simp [results,Tryz.results113,go_sem,r0,r1,r2,r3,lt1]
  ·refine z0a (Be.setCell (p:=⟨w.heap.size,0,none⟩) (Nat.le_refl _) (.int .i64 (z1e x 0).1.k) |>.setCell (p:=⟨w.heap.size,1,none⟩) (Nat.le_refl _) (.int .i64 (z1e x 0).1.n) |>.setCell (p:=⟨w.heap.size,2,none⟩) (Nat.le_refl _) (.int .i64 (z1e x 0).1.m) |>.setCell (p:=⟨w.heap.size,3,none⟩) (Nat.le_refl _) (.string ⟨(z1e x 0).1.b.toArray⟩)) (Grew.below ?_)
   repeat exact gB
 | norm_no e5 =>
  go_wp2
  refine bodyPost_ret_by (v:=.tuple #[va 0 0 0 ⟨#[]⟩,.int .i64 31]) ?_ rfl ⟨rfl,?_⟩
  ·simp [results,Tryz.results113,go_sem,r0,r1,r2,r3]
  ·refine z0a (Be.setCell (p:=⟨w.heap.size,0,none⟩) (Nat.le_refl _) (.int .i64 0) |>.setCell (p:=⟨w.heap.size,1,none⟩) (Nat.le_refl _) (.int .i64 0) |>.setCell (p:=⟨w.heap.size,2,none⟩) (Nat.le_refl _) (.int .i64 0) |>.setCell (p:=⟨w.heap.size,3,none⟩) (Nat.le_refl _) (.string ⟨#[]⟩)) (Grew.below ?_)
   repeat exact gB
 | px ka =>
  subst ka
  go_wp2_with (first
   | (go_at_call 144;refine (z2h _ _ _).mono ?_;rintro e w2 ⟨rfl,os2,n2,rfl⟩))
  refine bodyPost_ret_by (v:=rs (z1e an 0)) ?_ rfl ⟨rfl,?_⟩
  ·simp [results,Tryz.results113,go_sem,r0,r1,r2,r3,lt1]
  ·refine z0a (Be.setCell (p:=⟨w.heap.size,0,none⟩) (Nat.le_refl _) (.int .i64 (z1e an 0).1.k) |>.setCell (p:=⟨w.heap.size,1,none⟩) (Nat.le_refl _) (.int .i64 (z1e an 0).1.n) |>.setCell (p:=⟨w.heap.size,2,none⟩) (Nat.le_refl _) (.int .i64 (z1e an 0).1.m) |>.setCell (p:=⟨w.heap.size,3,none⟩) (Nat.le_refl _) (.string ⟨(z1e an 0).1.b.toArray⟩)) (Grew.below ?_)
   repeat exact gB
 | px_no e5 =>
  go_wp2
  refine bodyPost_ret_by (v:=.tuple #[va 0 0 0 ⟨#[]⟩,.int .i64 31]) ?_ rfl ⟨rfl,?_⟩
  ·simp [results,Tryz.results113,go_sem,r0,r1,r2,r3]
  ·refine z0a (Be.setCell (p:=⟨w.heap.size,0,none⟩) (Nat.le_refl _) (.int .i64 0) |>.setCell (p:=⟨w.heap.size,1,none⟩) (Nat.le_refl _) (.int .i64 0) |>.setCell (p:=⟨w.heap.size,2,none⟩) (Nat.le_refl _) (.int .i64 0) |>.setCell (p:=⟨w.heap.size,3,none⟩) (Nat.le_refl _) (.string ⟨#[]⟩)) (Grew.below ?_)
   repeat exact gB
 | py ka =>
  subst ka
  go_wp2_with (first
   | (go_at_call 144;refine (z2h _ _ _).mono ?_;rintro e w2 ⟨rfl,os2,n2,rfl⟩))
  refine bodyPost_ret_by (v:=rs (z1e am 0)) ?_ rfl ⟨rfl,?_⟩
  ·simp [results,Tryz.results113,go_sem,r0,r1,r2,r3,lt1]
  ·refine z0a (Be.setCell (p:=⟨w.heap.size,0,none⟩) (Nat.le_refl _) (.int .i64 (z1e am 0).1.k) |>.setCell (p:=⟨w.heap.size,1,none⟩) (Nat.le_refl _) (.int .i64 (z1e am 0).1.n) |>.setCell (p:=⟨w.heap.size,2,none⟩) (Nat.le_refl _) (.int .i64 (z1e am 0).1.m) |>.setCell (p:=⟨w.heap.size,3,none⟩) (Nat.le_refl _) (.string ⟨(z1e am 0).1.b.toArray⟩)) (Grew.below ?_)
   repeat exact gB
 | py_no e5 =>
  go_wp2
  refine bodyPost_ret_by (v:=.tuple #[va 0 0 0 ⟨#[]⟩,.int .i64 31]) ?_ rfl ⟨rfl,?_⟩
  ·simp [results,Tryz.results113,go_sem,r0,r1,r2,r3]
  ·refine z0a (Be.setCell (p:=⟨w.heap.size,0,none⟩) (Nat.le_refl _) (.int .i64 0) |>.setCell (p:=⟨w.heap.size,1,none⟩) (Nat.le_refl _) (.int .i64 0) |>.setCell (p:=⟨w.heap.size,2,none⟩) (Nat.le_refl _) (.int .i64 0) |>.setCell (p:=⟨w.heap.size,3,none⟩) (Nat.le_refl _) (.string ⟨#[]⟩)) (Grew.below ?_)
   repeat exact gB
 | length ka =>
  subst ka
  go_wp2_with (first
   | (go_at_call 144;refine (z2h _ _ _).mono ?_;rintro e w2 ⟨rfl,os2,n2,rfl⟩))
  refine bodyPost_ret_by (v:=rs (z1e (ab.length:Int) 0)) ?_ rfl ⟨rfl,?_⟩
  ·simp [results,Tryz.results113,go_sem,r0,r1,r2,r3,lt1]
  ·refine z0a (Be.setCell (p:=⟨w.heap.size,0,none⟩) (Nat.le_refl _) (.int .i64 (z1e (ab.length:Int) 0).1.k) |>.setCell (p:=⟨w.heap.size,1,none⟩) (Nat.le_refl _) (.int .i64 (z1e (ab.length:Int) 0).1.n) |>.setCell (p:=⟨w.heap.size,2,none⟩) (Nat.le_refl _) (.int .i64 (z1e (ab.length:Int) 0).1.m) |>.setCell (p:=⟨w.heap.size,3,none⟩) (Nat.le_refl _) (.string ⟨(z1e (ab.length:Int) 0).1.b.toArray⟩)) (Grew.below ?_)
   repeat exact gB
inductive QC2 (w:World) (ak an am:Int) (ab:List UInt8) (bk bn bm:Int) (bb:List UInt8):ByteArray→Value→Prop
 | point (ka:ak=1) (kb:bk=1):QC2 w ak an am ab bk bn bm bb (⟨#[112,111,105,110,116]⟩) (rs (ptAtR an bn))
 | point_noA (e1:(ak==1)=false):QC2 w ak an am ab bk bn bm bb (⟨#[112,111,105,110,116]⟩) (.tuple #[va 0 0 0 ⟨#[]⟩,.int .i64 31])
 | point_noB (ka:ak=1) (e1:(bk==1)=false):QC2 w ak an am ab bk bn bm bb (⟨#[112,111,105,110,116]⟩) (.tuple #[va 0 0 0 ⟨#[]⟩,.int .i64 31])
 | round1 (ka:ak=1) (kb:bk=1)  (r:Va × Int) (D:∀ W,Below w.heap.size w W→Calls Tryz.prog 149 #[dv an am,.int .i64 bn] W fun e w'=>e=.returned (rs r)∧Grew W w'):QC2 w ak an am ab bk bn bm bb (⟨#[114,111,117,110,100]⟩) (rs r)
 | round2 (ka:ak=2) (kb:bk=1)  (r:Va × Int) (D:∀ W,Below w.heap.size w W→Calls Tryz.prog 149 #[dv an am,.int .i64 bn] W fun e w'=>e=.returned (rs r)∧Grew W w'):QC2 w ak an am ab bk bn bm bb (⟨#[114,111,117,110,100]⟩) (rs r)
 | round_noA (e1:(ak==1)=false) (e2:(ak==2)=false):QC2 w ak an am ab bk bn bm bb (⟨#[114,111,117,110,100]⟩) (.tuple #[va 0 0 0 ⟨#[]⟩,.int .i64 31])
 | round_noB1 (ka:ak=1) (e1:(bk==1)=false):QC2 w ak an am ab bk bn bm bb (⟨#[114,111,117,110,100]⟩) (.tuple #[va 0 0 0 ⟨#[]⟩,.int .i64 31])
 | round_noB2 (ka:ak=2) (e1:(bk==1)=false):QC2 w ak an am ab bk bn bm bb (⟨#[114,111,117,110,100]⟩) (.tuple #[va 0 0 0 ⟨#[]⟩,.int .i64 31])
theorem z9c {nm:ByteArray} {R:Value} (ak:Int) (bk:Int) (bl off cap:Nat) (an am:Int) (ab:List UInt8) (bn bm:Int) (bb:List UInt8) (w:World) (hg:bl<w.heap.size) (c0:w.cell? ⟨bl,off,none⟩=some (.int .i64 ak)) (c1:w.cell? ⟨bl,off+1,none⟩=some (.int .i64 an)) (c2:w.cell? ⟨bl,off+2,none⟩=some (.int .i64 am)) (c3:w.cell? ⟨bl,off+3,none⟩=some (.string ⟨ab.toArray⟩)) (d0:w.cell? ⟨bl,off+4,none⟩=some (.int .i64 bk)) (d1:w.cell? ⟨bl,off+4+1,none⟩=some (.int .i64 bn)) (d2:w.cell? ⟨bl,off+4+2,none⟩=some (.int .i64 bm)) (d3:w.cell? ⟨bl,off+4+3,none⟩=some (.string ⟨bb.toArray⟩))
  (C:QC2 w ak an am ab bk bn bm bb nm R)
:
  Calls Tryz.prog 113 #[.string nm,.slice (some ⟨bl,off,none⟩) 2 cap] w fun e w'=>e=.returned R∧Below w.heap.size w w':=by
 obtain ⟨w0,hw0,bxr,Bw⟩:=z6s w
 have z0:IntKind.i64.wrap 1=1:=by rw [IntKind.wrap_i64];rfl
 go_enter Tryz.func113,Tryz.ntmps113
 go_wp2_with fail
 rw [← hw0]
 clear hw0
 rw [← Bw.cell (p:=⟨bl,off,none⟩) hg] at c0
 rw [← Bw.cell (p:=⟨bl,off+1,none⟩) hg] at c1
 rw [← Bw.cell (p:=⟨bl,off+2,none⟩) hg] at c2
 rw [← Bw.cell (p:=⟨bl,off+3,none⟩) hg] at c3
 rw [← Bw.cell (p:=⟨bl,off+4,none⟩) hg] at d0
 rw [← Bw.cell (p:=⟨bl,off+4+1,none⟩) hg] at d1
 rw [← Bw.cell (p:=⟨bl,off+4+2,none⟩) hg] at d2
 rw [← Bw.cell (p:=⟨bl,off+4+3,none⟩) hg] at d3
 replace hg:bl<w0.heap.size:=Nat.lt_of_lt_of_le hg Bw.size
 go_cut [6,7] from 8 (fun s0 s1 wx=>∃ p q:Nat,s0=.pointer (some ⟨p,0,none⟩)∧s1=.pointer (some ⟨q,0,none⟩)∧(wx.cell? ⟨p,0,none⟩=some (.int .i64 ak)∧wx.cell? ⟨p,1,none⟩=some (.int .i64 an)∧wx.cell? ⟨p,2,none⟩=some (.int .i64 am)∧wx.cell? ⟨p,3,none⟩=some (.string ⟨ab.toArray⟩))∧(wx.cell? ⟨q,0,none⟩=some (.int .i64 bk)∧wx.cell? ⟨q,1,none⟩=some (.int .i64 bn)∧wx.cell? ⟨q,2,none⟩=some (.int .i64 bm)∧wx.cell? ⟨q,3,none⟩=some (.string ⟨bb.toArray⟩))∧w0.heap.size≤p∧w0.heap.size≤q∧Grew w0 wx)
 case first =>
  refine wp_region_held_drew (S:=(fun W=>W.cell? ⟨bl,off,none⟩=some (.int .i64 ak)∧W.cell? ⟨bl,off+1,none⟩=some (.int .i64 an)∧W.cell? ⟨bl,off+2,none⟩=some (.int .i64 am)∧W.cell? ⟨bl,off+3,none⟩=some (.string ⟨ab.toArray⟩)∧W.cell? ⟨bl,off+4,none⟩=some (.int .i64 bk)∧W.cell? ⟨bl,off+4+1,none⟩=some (.int .i64 bn)∧W.cell? ⟨bl,off+4+2,none⟩=some (.int .i64 bm)∧W.cell? ⟨bl,off+4+3,none⟩=some (.string ⟨bb.toArray⟩))) gK ?_ (fun hHeld=>?_)
  ·((try dsimp only);(simp (maxDischargeDepth:=12) [go_sem,c0,c1,c2,c3,d0,d1,d2,d3]))
  refine wpAnyH_take (i:=0) (oi:=qcO0) (v:=?_) rfl gK gK gK (fun _ _ _ h=>h) (Or.inl ⟨by rfl,?_⟩) (by assumption) ?_
  rotate_left
  ·(intro W hSw;(try dsimp only at hSw);try simp only [qcO0];first|(go_simp;done)|(go_simp;with_reducible rfl))
  try simp only [qcO0,Act.put,List.setIfInBounds_toArray,List.set_cons_zero,List.set_cons_succ]
  refine wpAnyH_take (i:=1) (oi:=qcO1) (v:=?_) rfl gK gK gK (fun _ _ _ h=>h) (Or.inl ⟨by rfl,?_⟩) (by assumption) ?_
  rotate_left
  ·(intro W hSw;(try dsimp only at hSw);try simp only [qcO1];first|(go_simp;done)|(go_simp;with_reducible rfl))
  try simp only [qcO1,Act.put,List.setIfInBounds_toArray,List.set_cons_zero,List.set_cons_succ]
  refine wpAnyH_take (i:=2) (oi:=qcO2) (v:=?_) rfl gK gK gK (fun _ _ _ h=>h) (Or.inl ⟨by rfl,?_⟩) (by assumption) ?_
  rotate_left
  ·(intro W hSw;(try dsimp only at hSw);try simp only [qcO2];first|(go_simp;done)|(go_simp;with_reducible rfl))
  try simp only [qcO2,Act.put,List.setIfInBounds_toArray,List.set_cons_zero,List.set_cons_succ]
  refine wpAnyH_take (i:=3) (oi:=qcO3) (v:=?_) rfl gK gK gK (fun _ _ _ h=>h) (Or.inl ⟨by rfl,?_⟩) (by assumption) ?_
  rotate_left
  ·(intro W hSw;(try dsimp only at hSw);try simp only [qcO3];first|(go_simp;done)|(go_simp;with_reducible rfl))
  try simp only [qcO3,Act.put,List.setIfInBounds_toArray,List.set_cons_zero,List.set_cons_succ]
  refine wpAnyH_take (i:=4) (oi:=qcO4) (v:=?_) rfl gK gK gK (fun _ _ _ h=>h) (Or.inl ⟨by rfl,?_⟩) (by assumption) ?_
  rotate_left
  ·(intro W hSw;(try dsimp only at hSw);try simp only [qcO4];first|(go_simp;done)|(go_simp;with_reducible rfl))
  try simp only [qcO4,Act.put,List.setIfInBounds_toArray,List.set_cons_zero,List.set_cons_succ]
  refine wpAnyH_take (i:=5) (oi:=qcO5) (v:=?_) rfl gK gK gK (fun _ _ _ h=>h) (Or.inl ⟨by rfl,?_⟩) (by assumption) ?_
  rotate_left
  ·(intro W hSw;(try dsimp only at hSw);try simp only [qcO5];first|(go_simp;done)|(go_simp;with_reducible rfl))
  try simp only [qcO5,Act.put,List.setIfInBounds_toArray,List.set_cons_zero,List.set_cons_succ]
  refine wpAnyH_take (i:=6) (oi:=qcO6) (v:=?_) rfl gK gK gK (fun _ _ _ h=>h) (Or.inl ⟨by rfl,?_⟩) (by assumption) ?_
  rotate_left
  ·(intro W hSw;(try dsimp only at hSw);try simp only [qcO6];first|(go_simp;done)|(go_simp;with_reducible rfl))
  try simp only [qcO6,Act.put,List.setIfInBounds_toArray,List.set_cons_zero,List.set_cons_succ]
  refine wpAnyH_take (i:=7) (oi:=qcO7) (v:=?_) rfl gK gK gK (fun _ _ _ h=>h) (Or.inl ⟨by rfl,?_⟩) (by assumption) ?_
  rotate_left
  ·(intro W hSw;(try dsimp only at hSw);try simp only [qcO7];first|(go_simp;done)|(go_simp;with_reducible rfl))
  try simp only [qcO7,Act.put,List.setIfInBounds_toArray,List.set_cons_zero,List.set_cons_succ]
  refine wpAnyH_take (i:=8) (oi:=qcO8) (v:=?_) rfl gK gK gK (fun _ _ _ h=>h) (Or.inl ⟨by rfl,?_⟩) (by assumption) ?_
  rotate_left
  ·(intro W hSw;(try dsimp only at hSw);try simp only [qcO8];first|(go_simp;done)|(go_simp;with_reducible rfl))
  try simp only [qcO8,Act.put,List.setIfInBounds_toArray,List.set_cons_zero,List.set_cons_succ]
  refine wpAnyH_ready (rs:=[9,10]) gK (by simp) ?_
  refine AllReadyH.cons (o:=qcO9) rfl (fun K hK=>?_) (AllReadyH.cons (o:=qcO10) rfl (fun K hK=>?_) AllReadyH.nil)
  ·
   try simp only [qcO9]
   go_simp
   refine hK.out _ _ ?_ (fun hHeld=>?_)
   ·((try dsimp only);(simp (maxDischargeDepth:=12) [go_sem,c0,c1,c2,c3,hg,d0,d1,d2,d3]))
   clear hK K
   try simp only [Act.put,sA,sB,sC]
   refine wpAnyH_ready (rs:=[10]) gK (by simp) ?_
   refine AllReadyH.cons (o:=qcO10) rfl (fun K hK=>?_) AllReadyH.nil
   try simp only [qcO10]
   go_simp
   refine hK.out _ _ ?_ (fun hHeld=>?_)
   ·((try dsimp only);(simp (maxDischargeDepth:=12) [go_sem,c0,c1,c2,c3,hg,d0,d1,d2,d3]))
   clear hK K
   try simp only [Act.put,sA,sB,sC]
   refine wpAnyH_ready (rs:=[11]) gK (by simp) ?_
   refine AllReadyH.cons (o:=qcO11) rfl (fun K hK=>?_) AllReadyH.nil
   try simp only [qcO11]
   go_simp
   refine hK.out _ _ ?_ (fun hHeld=>?_)
   ·((try dsimp only);(simp (maxDischargeDepth:=12) [go_sem,c0,c1,c2,c3,hg,d0,d1,d2,d3]))
   clear hK K
   try simp only [Act.put,sA,sB,sC]
   refine wpAnyH_ready (rs:=[12]) gK (by simp) ?_
   refine AllReadyH.cons (o:=qcO12) rfl (fun K hK=>?_) AllReadyH.nil
   try simp only [qcO12]
   go_simp
   refine hK.out _ _ ?_ (fun hHeld=>?_)
   ·((try dsimp only);(simp (maxDischargeDepth:=12) [go_sem,c0,c1,c2,c3,hg,d0,d1,d2,d3]))
   clear hK K
   try simp only [Act.put,sA,sB,sC]
   refine wpAnyH_done gK ?_ _
   go_wp2_with fail
   go_meet
   exact ⟨_,_,rfl,rfl,⟨gD,gD,gD,gD⟩,⟨gD,gD,gD,gD⟩,by simp,by simp,gB⟩
  ·
   try simp only [qcO10]
   go_simp
   refine hK.out _ _ ?_ (fun hHeld=>?_)
   ·((try dsimp only);(simp (maxDischargeDepth:=12) [go_sem,c0,c1,c2,c3,hg,d0,d1,d2,d3]))
   clear hK K
   try simp only [Act.put,sA,sB,sC]
   refine wpAnyH_ready (rs:=[9]) gK (by simp) ?_
   refine AllReadyH.cons (o:=qcO9) rfl (fun K hK=>?_) AllReadyH.nil
   try simp only [qcO9]
   go_simp
   refine hK.out _ _ ?_ (fun hHeld=>?_)
   ·((try dsimp only);(simp (maxDischargeDepth:=12) [go_sem,c0,c1,c2,c3,hg,d0,d1,d2,d3]))
   clear hK K
   try simp only [Act.put,sA,sB,sC]
   refine wpAnyH_ready (rs:=[11]) gK (by simp) ?_
   refine AllReadyH.cons (o:=qcO11) rfl (fun K hK=>?_) AllReadyH.nil
   try simp only [qcO11]
   go_simp
   refine hK.out _ _ ?_ (fun hHeld=>?_)
   ·((try dsimp only);(simp (maxDischargeDepth:=12) [go_sem,c0,c1,c2,c3,hg,d0,d1,d2,d3]))
   clear hK K
   try simp only [Act.put,sA,sB,sC]
   refine wpAnyH_ready (rs:=[12]) gK (by simp) ?_
   refine AllReadyH.cons (o:=qcO12) rfl (fun K hK=>?_) AllReadyH.nil
   try simp only [qcO12]
   go_simp
   refine hK.out _ _ ?_ (fun hHeld=>?_)
   ·((try dsimp only);(simp (maxDischargeDepth:=12) [go_sem,c0,c1,c2,c3,hg,d0,d1,d2,d3]))
   clear hK K
   try simp only [Act.put,sA,sB,sC]
   refine wpAnyH_done gK ?_ _
   go_wp2_with fail
   go_meet
   exact ⟨_,_,rfl,rfl,⟨gD,gD,gD,gD⟩,⟨gD,gD,gD,gD⟩,by simp,by simp,gB⟩
 rename World=>w1
 obtain ⟨p,q,rfl,rfl,⟨p0,p1,p2,p3⟩,⟨q0,q1,q2,q3⟩,gp,gq,g⟩:=hcut
 have lp:=World.block_lt_of_cell? w1 _ p0
 have lq:=World.block_lt_of_cell? w1 _ q0
 have B1:=g.below
 have br:=bxr.later B1
 obtain ⟨r0,r1,r2,r3⟩:=br.at4
 dsimp only [nul] at r0 r1 r2 r3
 simp only [Nat.zero_add] at r1 r2 r3
 have f0:=br.free 0
 have f1:=br.free 1
 have f2:=br.free 2
 have f3:=br.free 3
 have lt1:=br.lt
 have Be:=z0a Bw B1
 have lr:=bxr.lt
 have np:¬ w.heap.size=p:=by omega
 have nq:¬ w.heap.size=q:=by omega
 clear gp gq lr
 clear br bxr g c0 c1 c2 c3 hg d0 d1 d2 d3
 cases C with
 | point ka kb =>
  subst ka
  subst kb
  go_wp2_with (first
   | (go_at_call 148;refine (qpointAt_any _ _ _).mono ?_;rintro e w2 ⟨rfl,os0,n0,rfl⟩))
  refine bodyPost_ret_by (v:=rs (ptAtR an bn)) ?_ rfl ⟨rfl,?_⟩
  ·simp [results,Tryz.results113,go_sem,r0,r1,r2,r3,lt1]
  ·refine z0a (Be.setCell (p:=⟨w.heap.size,0,none⟩) (Nat.le_refl _) (.int .i64 (ptAtR an bn).1.k) |>.setCell (p:=⟨w.heap.size,1,none⟩) (Nat.le_refl _) (.int .i64 (ptAtR an bn).1.n) |>.setCell (p:=⟨w.heap.size,2,none⟩) (Nat.le_refl _) (.int .i64 (ptAtR an bn).1.m) |>.setCell (p:=⟨w.heap.size,3,none⟩) (Nat.le_refl _) (.string ⟨(ptAtR an bn).1.b.toArray⟩)) (Grew.below ?_)
   repeat exact gB
 | point_noA e1 =>
  go_wp2
  refine bodyPost_ret_by (v:=.tuple #[va 0 0 0 ⟨#[]⟩,.int .i64 31]) ?_ rfl ⟨rfl,?_⟩
  ·simp [results,Tryz.results113,go_sem,r0,r1,r2,r3]
  ·refine z0a (Be.setCell (p:=⟨w.heap.size,0,none⟩) (Nat.le_refl _) (.int .i64 0) |>.setCell (p:=⟨w.heap.size,1,none⟩) (Nat.le_refl _) (.int .i64 0) |>.setCell (p:=⟨w.heap.size,2,none⟩) (Nat.le_refl _) (.int .i64 0) |>.setCell (p:=⟨w.heap.size,3,none⟩) (Nat.le_refl _) (.string ⟨#[]⟩)) (Grew.below ?_)
   repeat exact gB
 | point_noB ka e1 =>
  subst ka
  go_wp2
  refine bodyPost_ret_by (v:=.tuple #[va 0 0 0 ⟨#[]⟩,.int .i64 31]) ?_ rfl ⟨rfl,?_⟩
  ·simp [results,Tryz.results113,go_sem,r0,r1,r2,r3]
  ·refine z0a (Be.setCell (p:=⟨w.heap.size,0,none⟩) (Nat.le_refl _) (.int .i64 0) |>.setCell (p:=⟨w.heap.size,1,none⟩) (Nat.le_refl _) (.int .i64 0) |>.setCell (p:=⟨w.heap.size,2,none⟩) (Nat.le_refl _) (.int .i64 0) |>.setCell (p:=⟨w.heap.size,3,none⟩) (Nat.le_refl _) (.string ⟨#[]⟩)) (Grew.below ?_)
   repeat exact gB
 | round1 ka kb r D =>
  subst ka
  subst kb
  go_wp2_with (first
   | (go_at_call 119;refine (z2e _ _ _ _ _).mono ?_;rintro e w2 ⟨rfl,os0,n0,rfl⟩))
  go_region_held2 (fun W=>W.cell? ⟨p,0,none⟩=some (.int .i64 1)∧W.cell? ⟨p,1,none⟩=some (.int .i64 an)∧W.cell? ⟨p,2,none⟩=some (.int .i64 am)∧W.cell? ⟨p,3,none⟩=some (.string ⟨ab.toArray⟩)∧W.cell? ⟨q,1,none⟩=some (.int .i64 bn)) (simp (maxDischargeDepth:=12) [go_sem,p0,p1,p2,p3,q1,lp,lq]) (first
   | (go_at_call 121;refine (z3y _ _ _ _ _).mono ?_;rintro e w2 ⟨rfl,os1,n1,rfl⟩)
   | (go_at_call 149;refine (D _ (z0a Be (Grew.below gB))).mono ?_;rintro e w2 ⟨rfl,os2,n2,rfl⟩))
  all_goals go_wp2
  all_goals refine bodyPost_ret_by (v:=rs r) ?_ rfl ⟨rfl,?_⟩
  ·simp [results,Tryz.results113,go_sem,r0,r1,r2,r3,lt1]
  ·refine z0a (Be.setCell (p:=⟨w.heap.size,0,none⟩) (Nat.le_refl _) (.int .i64 (r).1.k) |>.setCell (p:=⟨w.heap.size,1,none⟩) (Nat.le_refl _) (.int .i64 (r).1.n) |>.setCell (p:=⟨w.heap.size,2,none⟩) (Nat.le_refl _) (.int .i64 (r).1.m) |>.setCell (p:=⟨w.heap.size,3,none⟩) (Nat.le_refl _) (.string ⟨(r).1.b.toArray⟩)) (Grew.below ?_)
   repeat exact gB
 | round2 ka kb r D =>
  subst ka
  subst kb
  go_wp2_with (first
   | (go_at_call 119;refine (z2e _ _ _ _ _).mono ?_;rintro e w2 ⟨rfl,os0,n0,rfl⟩))
  go_region_held2 (fun W=>W.cell? ⟨p,0,none⟩=some (.int .i64 2)∧W.cell? ⟨p,1,none⟩=some (.int .i64 an)∧W.cell? ⟨p,2,none⟩=some (.int .i64 am)∧W.cell? ⟨p,3,none⟩=some (.string ⟨ab.toArray⟩)∧W.cell? ⟨q,1,none⟩=some (.int .i64 bn)) (simp (maxDischargeDepth:=12) [go_sem,p0,p1,p2,p3,q1,lp,lq]) (first
   | (go_at_call 121;refine (z3y _ _ _ _ _).mono ?_;rintro e w2 ⟨rfl,os1,n1,rfl⟩)
   | (go_at_call 149;refine (D _ (z0a Be (Grew.below gB))).mono ?_;rintro e w2 ⟨rfl,os2,n2,rfl⟩))
  all_goals go_wp2
  all_goals refine bodyPost_ret_by (v:=rs r) ?_ rfl ⟨rfl,?_⟩
  ·simp [results,Tryz.results113,go_sem,r0,r1,r2,r3,lt1]
  ·refine z0a (Be.setCell (p:=⟨w.heap.size,0,none⟩) (Nat.le_refl _) (.int .i64 (r).1.k) |>.setCell (p:=⟨w.heap.size,1,none⟩) (Nat.le_refl _) (.int .i64 (r).1.n) |>.setCell (p:=⟨w.heap.size,2,none⟩) (Nat.le_refl _) (.int .i64 (r).1.m) |>.setCell (p:=⟨w.heap.size,3,none⟩) (Nat.le_refl _) (.string ⟨(r).1.b.toArray⟩)) (Grew.below ?_)
   repeat exact gB
 | round_noA e1 e2 =>
  go_wp2_with (first
   | (go_at_call 119;refine (z2e _ _ _ _ _).mono ?_;rintro e w2 ⟨rfl,os0,n0,rfl⟩))
  refine bodyPost_ret_by (v:=.tuple #[va 0 0 0 ⟨#[]⟩,.int .i64 31]) ?_ rfl ⟨rfl,?_⟩
  ·simp [results,Tryz.results113,go_sem,r0,r1,r2,r3,lt1]
  ·refine z0a (Be.setCell (p:=⟨w.heap.size,0,none⟩) (Nat.le_refl _) (.int .i64 0) |>.setCell (p:=⟨w.heap.size,1,none⟩) (Nat.le_refl _) (.int .i64 0) |>.setCell (p:=⟨w.heap.size,2,none⟩) (Nat.le_refl _) (.int .i64 0) |>.setCell (p:=⟨w.heap.size,3,none⟩) (Nat.le_refl _) (.string ⟨#[]⟩)) (Grew.below ?_)
   repeat exact gB
 | round_noB1 ka e1 =>
  subst ka
  go_wp2_with (first
   | (go_at_call 119;refine (z2e _ _ _ _ _).mono ?_;rintro e w2 ⟨rfl,os0,n0,rfl⟩))
  refine bodyPost_ret_by (v:=.tuple #[va 0 0 0 ⟨#[]⟩,.int .i64 31]) ?_ rfl ⟨rfl,?_⟩
  ·simp [results,Tryz.results113,go_sem,r0,r1,r2,r3,lt1]
  ·refine z0a (Be.setCell (p:=⟨w.heap.size,0,none⟩) (Nat.le_refl _) (.int .i64 0) |>.setCell (p:=⟨w.heap.size,1,none⟩) (Nat.le_refl _) (.int .i64 0) |>.setCell (p:=⟨w.heap.size,2,none⟩) (Nat.le_refl _) (.int .i64 0) |>.setCell (p:=⟨w.heap.size,3,none⟩) (Nat.le_refl _) (.string ⟨#[]⟩)) (Grew.below ?_)
   repeat exact gB
 | round_noB2 ka e1 =>
  subst ka
  go_wp2_with (first
   | (go_at_call 119;refine (z2e _ _ _ _ _).mono ?_;rintro e w2 ⟨rfl,os0,n0,rfl⟩))
  refine bodyPost_ret_by (v:=.tuple #[va 0 0 0 ⟨#[]⟩,.int .i64 31]) ?_ rfl ⟨rfl,?_⟩
  ·simp [results,Tryz.results113,go_sem,r0,r1,r2,r3,lt1]
  ·refine z0a (Be.setCell (p:=⟨w.heap.size,0,none⟩) (Nat.le_refl _) (.int .i64 0) |>.setCell (p:=⟨w.heap.size,1,none⟩) (Nat.le_refl _) (.int .i64 0) |>.setCell (p:=⟨w.heap.size,2,none⟩) (Nat.le_refl _) (.int .i64 0) |>.setCell (p:=⟨w.heap.size,3,none⟩) (Nat.le_refl _) (.string ⟨#[]⟩)) (Grew.below ?_)
   repeat exact gB
end Go.Proofs.YtljkonkfeiojnaaGreatDoor

namespace Go.Proofs.YtljkonkfeiojnaaGreatDoor
open Go.RowKit Go.Shelf
attribute [local go_sem] z0f z0b z0c z0e z0m z0k z0h z0d z0g
theorem fun_bad (B:ByteArray) (ao:Option Addr) (n cap:Nat) (w:World)  (A:z0s 59 #[.slice ao n cap] w (.bool false)) :
  Calls Tryz.prog 82 #[.string B,.slice ao n cap] w fun e w'=>e=.returned (.tuple #[va 0 0 0 ⟨#[]⟩,.int .i64 1])∧Below w.heap.size w w':=by
 obtain ⟨w0,hw0,bxr,Bw⟩:=z6s w
 go_enter Tryz.func82,Tryz.ntmps82
 go_upto_region 1 with fail
 rw [← hw0]
 clear hw0
 have B0:Below w0.heap.size w0 w0:=Below.refl _ _
 go_wp2_with fail
 refine (A _ (z0a Bw B0)).mono ?_
 rintro e w1 ⟨rfl,c⟩
 have B1:=z0a B0 c
 clear c
 have br:=bxr.later B1
 obtain ⟨r0,r1,r2,r3⟩:=br.at4
 dsimp only [nul] at r0 r1 r2 r3
 simp only [Nat.zero_add] at r1 r2 r3
 have f0:=br.free 0
 have f1:=br.free 1
 have f2:=br.free 2
 have f3:=br.free 3
 have lt1:=br.lt
 have Be:=z0a Bw B1
 go_wp2
 refine bodyPost_ret_by (v:=.tuple #[va 0 0 0 ⟨#[]⟩,.int .i64 1]) ?_ rfl ⟨rfl,?_⟩
 ·simp [results,Tryz.results82,go_sem,r0,r1,r2,r3]
 ·exact (Be.setCell (p:=⟨w.heap.size,0,none⟩) (Nat.le_refl _) (.int .i64 0) |>.setCell (p:=⟨w.heap.size,1,none⟩) (Nat.le_refl _) (.int .i64 0) |>.setCell (p:=⟨w.heap.size,2,none⟩) (Nat.le_refl _) (.int .i64 0) |>.setCell (p:=⟨w.heap.size,3,none⟩) (Nat.le_refl _) (.string ⟨#[]⟩))
theorem fun_name (B:ByteArray) (ao:Option Addr) (n cap:Nat) (w:World)  (A:z0s 59 #[.slice ao n cap] w (.bool true)) (I:z0s 110 #[.string B,.int .i64 (n:Int)] w (.bool false)) :
  Calls Tryz.prog 82 #[.string B,.slice ao n cap] w fun e w'=>e=.returned (.tuple #[va 0 0 0 ⟨#[]⟩,.int .i64 34])∧Below w.heap.size w w':=by
 obtain ⟨w0,hw0,bxr,Bw⟩:=z6s w
 go_enter Tryz.func82,Tryz.ntmps82
 go_upto_region 1 with fail
 rw [← hw0]
 clear hw0
 have B0:Below w0.heap.size w0 w0:=Below.refl _ _
 go_wp2_with fail
 refine (A _ (z0a Bw B0)).mono ?_
 rintro e w1 ⟨rfl,c⟩
 have B1:=z0a B0 c
 clear c
 go_wp2_with fail
 refine (I _ (z0a Bw B1)).mono ?_
 rintro e w2 ⟨rfl,c⟩
 have B2:=z0a B1 c
 clear c
 have br:=bxr.later B2
 obtain ⟨r0,r1,r2,r3⟩:=br.at4
 dsimp only [nul] at r0 r1 r2 r3
 simp only [Nat.zero_add] at r1 r2 r3
 have f0:=br.free 0
 have f1:=br.free 1
 have f2:=br.free 2
 have f3:=br.free 3
 have lt1:=br.lt
 have Be:=z0a Bw B2
 go_wp2
 refine bodyPost_ret_by (v:=.tuple #[va 0 0 0 ⟨#[]⟩,.int .i64 34]) ?_ rfl ⟨rfl,?_⟩
 ·simp [results,Tryz.results82,go_sem,r0,r1,r2,r3]
 ·exact (Be.setCell (p:=⟨w.heap.size,0,none⟩) (Nat.le_refl _) (.int .i64 0) |>.setCell (p:=⟨w.heap.size,1,none⟩) (Nat.le_refl _) (.int .i64 0) |>.setCell (p:=⟨w.heap.size,2,none⟩) (Nat.le_refl _) (.int .i64 0) |>.setCell (p:=⟨w.heap.size,3,none⟩) (Nat.le_refl _) (.string ⟨#[]⟩))
theorem fun_coal (ao:Option Addr) (n cap:Nat) (w:World) (rk rn rm:Int) (rb:ByteArray) (A:z0s 59 #[.slice ao n cap] w (.bool true)) (I:z0s 110 #[.string ⟨#[99,111,97,108,101,115,99,101]⟩,.int .i64 (n:Int)] w (.bool true)) (F:z0s 111 #[.slice ao n cap] w (va rk rn rm rb)) :
  Calls Tryz.prog 82 #[.string ⟨#[99,111,97,108,101,115,99,101]⟩,.slice ao n cap] w fun e w'=>e=.returned (.tuple #[va rk rn rm rb,.int .i64 0])∧Below w.heap.size w w':=by
 obtain ⟨w0,hw0,bxr,Bw⟩:=z6s w
 go_enter Tryz.func82,Tryz.ntmps82
 go_upto_region 1 with fail
 rw [← hw0]
 clear hw0
 have B0:Below w0.heap.size w0 w0:=Below.refl _ _
 go_wp2_with fail
 refine (A _ (z0a Bw B0)).mono ?_
 rintro e w1 ⟨rfl,c⟩
 have B1:=z0a B0 c
 clear c
 go_wp2_with fail
 refine (I _ (z0a Bw B1)).mono ?_
 rintro e w2 ⟨rfl,c⟩
 have B2:=z0a B1 c
 clear c
 go_wp2_with fail
 refine (F _ (z0a Bw B2)).mono ?_
 rintro e w3 ⟨rfl,c⟩
 have B3:=z0a B2 c
 clear c
 have br:=bxr.later B3
 obtain ⟨r0,r1,r2,r3⟩:=br.at4
 dsimp only [nul] at r0 r1 r2 r3
 simp only [Nat.zero_add] at r1 r2 r3
 have f0:=br.free 0
 have f1:=br.free 1
 have f2:=br.free 2
 have f3:=br.free 3
 have lt1:=br.lt
 have Be:=z0a Bw B3
 go_wp2
 refine bodyPost_ret_by (v:=.tuple #[va rk rn rm rb,.int .i64 0]) ?_ rfl ⟨rfl,?_⟩
 ·simp [results,Tryz.results82,go_sem,r0,r1,r2,r3]
 ·exact (Be.setCell (p:=⟨w.heap.size,0,none⟩) (Nat.le_refl _) (.int .i64 rk) |>.setCell (p:=⟨w.heap.size,1,none⟩) (Nat.le_refl _) (.int .i64 rn) |>.setCell (p:=⟨w.heap.size,2,none⟩) (Nat.le_refl _) (.int .i64 rm) |>.setCell (p:=⟨w.heap.size,3,none⟩) (Nat.le_refl _) (.string rb))
theorem fun_null (B:ByteArray) (ao:Option Addr) (n cap:Nat) (w:World) (e7:(B.toList==[99,111,97,108,101,115,99,101])=false) (A:z0s 59 #[.slice ao n cap] w (.bool true)) (I:z0s 110 #[.string B,.int .i64 (n:Int)] w (.bool true)) (C:z0s 112 #[.slice ao n cap,va 0 0 0 ⟨#[]⟩] w (.bool true)) :
  Calls Tryz.prog 82 #[.string B,.slice ao n cap] w fun e w'=>e=.returned (.tuple #[va 0 0 0 ⟨#[]⟩,.int .i64 0])∧Below w.heap.size w w':=by
 obtain ⟨w0,hw0,bxr,Bw⟩:=z6s w
 go_enter Tryz.func82,Tryz.ntmps82
 go_upto_region 1 with fail
 rw [← hw0]
 clear hw0
 have B0:Below w0.heap.size w0 w0:=Below.refl _ _
 go_wp2_with fail
 refine (A _ (z0a Bw B0)).mono ?_
 rintro e w1 ⟨rfl,c⟩
 have B1:=z0a B0 c
 clear c
 go_wp2_with fail
 refine (I _ (z0a Bw B1)).mono ?_
 rintro e w2 ⟨rfl,c⟩
 have B2:=z0a B1 c
 clear c
 go_wp2_with fail
 refine (C _ (z0a Bw B2)).mono ?_
 rintro e w3 ⟨rfl,c⟩
 have B3:=z0a B2 c
 clear c
 have br:=bxr.later B3
 obtain ⟨r0,r1,r2,r3⟩:=br.at4
 dsimp only [nul] at r0 r1 r2 r3
 simp only [Nat.zero_add] at r1 r2 r3
 have f0:=br.free 0
 have f1:=br.free 1
 have f2:=br.free 2
 have f3:=br.free 3
 have lt1:=br.lt
 have Be:=z0a Bw B3
 go_wp2
 refine bodyPost_ret_by (v:=.tuple #[va 0 0 0 ⟨#[]⟩,.int .i64 0]) ?_ rfl ⟨rfl,?_⟩
 ·simp [results,Tryz.results82,go_sem,r0,r1,r2,r3]
 ·exact (Be.setCell (p:=⟨w.heap.size,0,none⟩) (Nat.le_refl _) (.int .i64 0) |>.setCell (p:=⟨w.heap.size,1,none⟩) (Nat.le_refl _) (.int .i64 0) |>.setCell (p:=⟨w.heap.size,2,none⟩) (Nat.le_refl _) (.int .i64 0) |>.setCell (p:=⟨w.heap.size,3,none⟩) (Nat.le_refl _) (.string ⟨#[]⟩))
theorem fun_call (B:ByteArray) (ao:Option Addr) (n cap:Nat) (w:World) (rk rn rm re:Int) (rb:ByteArray) (e7:(B.toList==[99,111,97,108,101,115,99,101])=false) (A:z0s 59 #[.slice ao n cap] w (.bool true)) (I:z0s 110 #[.string B,.int .i64 (n:Int)] w (.bool true)) (C:z0s 112 #[.slice ao n cap,va 0 0 0 ⟨#[]⟩] w (.bool false)) (F:z0s 113 #[.string B,.slice ao n cap] w (.tuple #[va rk rn rm rb,.int .i64 re])) :
  Calls Tryz.prog 82 #[.string B,.slice ao n cap] w fun e w'=>e=.returned (.tuple #[va rk rn rm rb,.int .i64 re])∧Below w.heap.size w w':=by
 obtain ⟨w0,hw0,bxr,Bw⟩:=z6s w
 go_enter Tryz.func82,Tryz.ntmps82
 go_upto_region 1 with fail
 rw [← hw0]
 clear hw0
 have B0:Below w0.heap.size w0 w0:=Below.refl _ _
 go_wp2_with fail
 refine (A _ (z0a Bw B0)).mono ?_
 rintro e w1 ⟨rfl,c⟩
 have B1:=z0a B0 c
 clear c
 go_wp2_with fail
 refine (I _ (z0a Bw B1)).mono ?_
 rintro e w2 ⟨rfl,c⟩
 have B2:=z0a B1 c
 clear c
 go_wp2_with fail
 refine (C _ (z0a Bw B2)).mono ?_
 rintro e w3 ⟨rfl,c⟩
 have B3:=z0a B2 c
 clear c
 go_wp2_with fail
 refine (F _ (z0a Bw B3)).mono ?_
 rintro e w4 ⟨rfl,c⟩
 have B4:=z0a B3 c
 clear c
 have br:=bxr.later B4
 obtain ⟨r0,r1,r2,r3⟩:=br.at4
 dsimp only [nul] at r0 r1 r2 r3
 simp only [Nat.zero_add] at r1 r2 r3
 have f0:=br.free 0
 have f1:=br.free 1
 have f2:=br.free 2
 have f3:=br.free 3
 have lt1:=br.lt
 have Be:=z0a Bw B4
 go_wp2
 refine bodyPost_ret_by (v:=.tuple #[va rk rn rm rb,.int .i64 re]) ?_ rfl ⟨rfl,?_⟩
 ·simp [results,Tryz.results82,go_sem,r0,r1,r2,r3]
 ·exact (Be.setCell (p:=⟨w.heap.size,0,none⟩) (Nat.le_refl _) (.int .i64 rk) |>.setCell (p:=⟨w.heap.size,1,none⟩) (Nat.le_refl _) (.int .i64 rn) |>.setCell (p:=⟨w.heap.size,2,none⟩) (Nat.le_refl _) (.int .i64 rm) |>.setCell (p:=⟨w.heap.size,3,none⟩) (Nat.le_refl _) (.string rb))
def absR (a:Va):Va × Int:=if a.n<0 then negR a else (a,0)
def cal1 (nm:List UInt8) (a:Va):Va × Int :=
 if nm=sLength then (if a.k=3 then (vI (a.b.length:Int),0) else (nul,31))
 else if nm=sAbs then (if isn a then absR a else (nul,31))
 else if nm=sNorm then (if a.k=5 then (vI (Ga.nrm a.n a.m),0) else (nul,31))
 else if nm=sPx then (if a.k=5 then (vI a.n,0) else (nul,31))
 else (if a.k=5 then (vI a.m,0) else (nul,31))
def cal2 (nm:List UInt8) (a b:Va):Va × Int :=
 if nm=sPoint then (if a.k=1∧b.k=1 then ptAtR a.n b.n else (nul,31))
 else (if isn a∧b.k=1 then rndR a.n a.m b.n else (nul,31))
def calR (nm:List UInt8):List Va→Va × Int
 | [a]=>cal1 nm a
 | [a,b]=>cal2 nm a b
 | _=>(nul,31)
def funR (nm:List UInt8) (l:List Va):Va × Int :=
 if l.all vr=false then (nul,1) else if isF nm l.length=false then (nul,34) else if nm=z7y then (z7f l,0) else if l.any zq=true then (nul,0) else calR nm l
end Go.Proofs.YtljkonkfeiojnaaGreatDoor

namespace Go.Proofs.YtljkonkfeiojnaaGreatDoor
open Go.RowKit Go.Shelf
theorem two_of {l:List Va} (h:l.length=2):∃ a b,l=[a,b]:=by
 match l,h with
 | [a,b],_=>exact ⟨a,b,rfl⟩
theorem toList_arr (l:List UInt8):(⟨l.toArray⟩:ByteArray).toList=l:=by rw [Lib.toList_data]
theorem cast_beq (n k:Nat):((n:Int)==(k:Int))=(n==k):=by
 by_cases h:n=k
 ·subst h;simp
 ·rw [beq_eq_false_iff_ne.2 h,beq_eq_false_iff_ne]
  omega
theorem isf_any (nm:List UInt8) (n:Nat) (w:World):Calls Tryz.prog 110 #[.string ⟨nm.toArray⟩,.int .i64 (n:Int)] w fun e w'=>e=.returned (.bool (isF nm n))∧w=w':=by
 have c1:=cast_beq n 1
 have c2:=cast_beq n 2
 unfold isF
 by_cases h1:nm=sLength∨nm=sAbs∨nm=sNorm∨nm=sPx∨nm=sPy
 ·rw [if_pos h1,← c1]
  rcases h1 with rfl|rfl|rfl|rfl|rfl
  ·exact isf_length _ w
  ·exact isf_abs _ w
  ·exact isf_norm _ w
  ·exact isf_px _ w
  ·exact isf_py _ w
 rw [if_neg h1]
 by_cases h2:nm=sPoint∨nm=sRound
 ·rw [if_pos h2,← c2]
  rcases h2 with rfl|rfl
  ·exact isf_point _ w
  ·exact isf_round _ w
 rw [if_neg h2]
 by_cases h3:nm=z7y
 ·rw [if_pos h3]
  subst h3
  by_cases l1:1≤n
  ·by_cases l4:n≤4
   ·rw [decide_eq_true ⟨l1,l4⟩]
    exact isf_coal_ok _ w (by omega) (by omega)
   ·rw [decide_eq_false (fun h=>l4 h.2)]
    exact isf_coal_hi _ w (by omega) (by omega)
  ·rw [decide_eq_false (fun h=>l1 h.1)]
   exact isf_coal_lo _ w (by omega)
 rw [if_neg h3]
 have f:∀ s:List UInt8,nm≠s→((⟨nm.toArray⟩:ByteArray).toList==s)=false:=fun s h=>by rw [toList_arr];exact beq_eq_false_iff_ne.2 h
 exact isf_other ⟨nm.toArray⟩ _ w (f _ fun h=>h1 (.inl h)) (f _ fun h=>h1 (.inr (.inl h))) (f _ fun h=>h1 (.inr (.inr (.inl h)))) (f _ fun h=>h1 (.inr (.inr (.inr (.inl h))))) (f _ fun h=>h1 (.inr (.inr (.inr (.inr h))))) (f _ fun h=>h2 (.inl h)) (f _ fun h=>h2 (.inr h)) (f _ h3)
theorem numc_scaled (x y p:Int) (hp:0<p):numc (x*p) (y*p)<0↔x<y:=by
 have h:x*p<y*p↔x<y:=⟨fun h=>Int.lt_of_mul_lt_mul_right h (Int.le_of_lt hp),fun h=>Int.mul_lt_mul_of_pos_right h hp⟩
 unfold numc
 by_cases hxy:x<y
 ·rw [if_pos (h.2 hxy)];simp [hxy]
 ·rw [if_neg (fun h'=>hxy (h.1 h'))]
  split <;> simp <;> omega
theorem ten_pos (m:Int):(0:Int)<10^(6 - m).toNat:=by
 have:(0:Int)<10:=by decide
 exact Int.pow_pos this
theorem qsize_any (a:Va) (w:World) (hT:Tabs w) (hP:Pw w) (hr:vr a=true) (hn:isn a) (ia:vin a):Calls Tryz.prog 145 #[vv a] w fun e w'=>e=.returned (rs (absR a))∧Below w.heap.size w w':=by
 have U:z0s 83 #[.int .i64 3,vv a] w (rs (negR a)):=fun W h=>by
  have:=qun_any 3 a W (hT.later h) (hP.below h) ia
  rw [show unR 3 a=negR a by unfold unR;rw [if_neg (by simp [hr]),if_neg (by decide),if_neg (by decide)]] at this
  exact this
 have hv:=(z3u a).1 hr
 have hm:=num_scale hn hr
 obtain ⟨k,n,m,b⟩:=a
 simp only [isn] at hn
 simp only [vok] at hv
 simp only at hm
 obtain ⟨⟨n0,n1⟩,m0⟩:=id ia
 simp only at n0 n1 m0
 have hb:b=[]:=by rcases hv with h|h|h|h|h|h <;> first|omega|exact h.2.2|exact h.2.2.2
 subst hb
 have key:∀ (z:Int),z=-n→fits z=true→∀ k':Int,k'=k→negR ⟨k,n,m,[]⟩=(⟨k',z,m,[]⟩,0) →
   Calls Tryz.prog 145 #[vv ⟨k,n,m,[]⟩] w fun e w'=>e=.returned (rs (absR ⟨k,n,m,[]⟩))∧Below w.heap.size w w':=by
  intro z hz hf k' hk' hg
  have hzi:-9223372036854775808≤z∧z≤9223372036854775807:=by simpa [fits] using hf
  rw [hg] at U
  refine qsize_walk k n m [] k' z m 0 [] (numc (at6 ⟨k,n,m,[]⟩) (at6 ⟨k',z,m,[]⟩)) w U (fun _ W h=>dcmp_six ⟨k,n,m,[]⟩ ⟨k',z,m,[]⟩ W (hP.below h) hm hm ia ⟨hzi,m0⟩) _ ?_
  show absR _=_
  rw [if_pos rfl]
  unfold absR
  rw [hg]
  have hx:numc (at6 ⟨k,n,m,[]⟩) (at6 ⟨k',z,m,[]⟩)<0↔n<0:=by
   show numc (n*10^(6 - m).toNat) (z*10^(6 - m).toNat)<0↔_
   rw [numc_scaled _ _ _ (ten_pos m)]
   omega
  by_cases h:n<0
  ·rw [if_pos (hx.2 h)]
   simp [h]
  ·rw [if_neg (fun h'=>h (hx.1 h'))]
   simp [h]
 by_cases hf:fits (-n)=true
 ·have h0:(0:Int) - n=-n:=by omega
  rcases hn with rfl|rfl
  ·have hm0:m=0:=by omega
   subst hm0
   refine key (-n) rfl hf 1 rfl ?_
   simp [negR,z1e,nz,nErr,hf,vI]
  ·refine key (-n) rfl hf 2 rfl ?_
   simp [negR,decR,z5g,nz,nErr,fs,hf,vD]
 ·have hneg:n<0:=by
   simp only [fits,decide_eq_true_eq] at hf
   omega
  have hg:negR ⟨k,n,m,[]⟩=(nul,32):=by
   rcases hn with rfl|rfl
   ·simp [negR,z1e,nErr,hf]
   ·simp [negR,decR,z5g,nErr,hf]
  rw [hg] at U
  refine qsize_walk k n m [] 0 0 0 32 [] 0 w U (fun h=>absurd h (by decide)) _ ?_
  show absR _=_
  unfold absR
  rw [hg]
  simp [hneg]
theorem cal1_any (nm:List UInt8) (bl off cap:Nat) (a:Va) (w:World) (hT:Tabs w) (hP:Pw w) (h4:At4 w bl off a) (hr:vr a=true) (ia:vin a) (hn:nm=sLength∨nm=sAbs∨nm=sNorm∨nm=sPx∨nm=sPy) :
  Calls Tryz.prog 113 #[.string ⟨nm.toArray⟩,.slice (some ⟨bl,off,none⟩) 1 cap] w fun e w'=>e=.returned (rs (cal1 nm a))∧Below w.heap.size w w':=by
 obtain ⟨c0,c1,c2,c3⟩:=id h4
 have hg:=h4.lt
 have hv:=(z3u a).1 hr
 obtain ⟨ak,an,am,ab⟩:=a
 simp only at c0 c1 c2 c3
 have no:∀ k:Int,ak≠k→(ak==k)=false:=fun k h=>beq_eq_false_iff_ne.2 h
 unfold cal1
 rcases hn with rfl|rfl|rfl|rfl|rfl
 ·rw [if_pos rfl]
  by_cases h:ak=3
  ·subst h
   rw [if_pos rfl]
   exact z6q _ bl off cap an am ab w hg c0 c1 c2 c3 (.length rfl)
  ·rw [if_neg h]
   exact z6q ak bl off cap an am ab w hg c0 c1 c2 c3 (.length_no (no 3 h))
 ·rw [if_neg (by decide),if_pos rfl]
  by_cases h:isn ⟨ak,an,am,ab⟩
  ·rw [if_pos h]
   have S:z0s 145 #[va ak an am ⟨ab.toArray⟩] w (rs (absR ⟨ak,an,am,ab⟩)):=fun W hW=>qsize_any ⟨ak,an,am,ab⟩ W (hT.later hW) (hP.below hW) hr h ia
   rcases h with h|h
   ·simp only at h
    subst h
    exact z6q _ bl off cap an am ab w hg c0 c1 c2 c3 (.abs1 rfl _ _ _ _ _ S)
   ·simp only at h
    subst h
    exact z6q _ bl off cap an am ab w hg c0 c1 c2 c3 (.abs2 rfl _ _ _ _ _ S)
  ·rw [if_neg h]
   simp only [isn,not_or] at h
   exact z6q ak bl off cap an am ab w hg c0 c1 c2 c3 (.abs_no (no 1 h.1) (no 2 h.2))
 ·rw [if_neg (by decide),if_neg (by decide),if_pos rfl]
  by_cases h:ak=5
  ·subst h
   rw [if_pos rfl]
   exact z6q _ bl off cap an am ab w hg c0 c1 c2 c3 (.norm rfl _ (fun W=>Ga.norm_any an am W))
  ·rw [if_neg h]
   exact z6q ak bl off cap an am ab w hg c0 c1 c2 c3 (.norm_no (no 5 h))
 ·rw [if_neg (by decide),if_neg (by decide),if_neg (by decide),if_pos rfl]
  by_cases h:ak=5
  ·subst h
   rw [if_pos rfl]
   exact z6q _ bl off cap an am ab w hg c0 c1 c2 c3 (.px rfl)
  ·rw [if_neg h]
   exact z6q ak bl off cap an am ab w hg c0 c1 c2 c3 (.px_no (no 5 h))
 ·rw [if_neg (by decide),if_neg (by decide),if_neg (by decide),if_neg (by decide)]
  by_cases h:ak=5
  ·subst h
   rw [if_pos rfl]
   exact z6q _ bl off cap an am ab w hg c0 c1 c2 c3 (.py rfl)
  ·rw [if_neg h]
   exact z6q ak bl off cap an am ab w hg c0 c1 c2 c3 (.py_no (no 5 h))
theorem cal2_any (nm:List UInt8) (bl off cap:Nat) (a b:Va) (w:World) (hP:Pw w) (h4:At4 w bl off a) (g4:At4 w bl (off+4) b) (ia:vin a) (hn:nm=sPoint∨nm=sRound) :
  Calls Tryz.prog 113 #[.string ⟨nm.toArray⟩,.slice (some ⟨bl,off,none⟩) 2 cap] w fun e w'=>e=.returned (rs (cal2 nm a b))∧Below w.heap.size w w':=by
 obtain ⟨c0,c1,c2,c3⟩:=id h4
 obtain ⟨d0,d1,d2,d3⟩:=id g4
 have hg:=h4.lt
 obtain ⟨⟨n0,n1⟩,-⟩:=ia
 obtain ⟨ak,an,am,ab⟩:=a
 obtain ⟨bk,bn,bm,bb⟩:=b
 simp only at c0 c1 c2 c3 d0 d1 d2 d3 n0 n1
 have no:∀ x k:Int,x≠k→(x==k)=false:=fun x k h=>beq_eq_false_iff_ne.2 h
 unfold cal2
 rcases hn with rfl|rfl
 ·rw [if_pos rfl]
  by_cases h:ak=1
  ·subst h
   by_cases h':bk=1
   ·subst h'
    rw [if_pos ⟨rfl,rfl⟩]
    exact z9c _ _ bl off cap an am ab bn bm bb w hg c0 c1 c2 c3 d0 d1 d2 d3 (.point rfl rfl)
   ·rw [if_neg (fun h=>h' h.2)]
    exact z9c _ bk bl off cap an am ab bn bm bb w hg c0 c1 c2 c3 d0 d1 d2 d3 (.point_noB rfl (no _ 1 h'))
  ·rw [if_neg (fun h'=>h h'.1)]
   exact z9c ak bk bl off cap an am ab bn bm bb w hg c0 c1 c2 c3 d0 d1 d2 d3 (.point_noA (no _ 1 h))
 ·rw [if_neg (by decide)]
  have R:∀ W,Below w.heap.size w W→Calls Tryz.prog 149 #[dv an am,.int .i64 bn] W fun e w'=>e=.returned (rs (rndR an am bn))∧Grew W w':=fun W h=>qrounded_any an am bn W (hP.below h) n0 n1
  by_cases h:ak=1
  ·subst h
   by_cases h':bk=1
   ·subst h'
    rw [if_pos ⟨show isn _ from Or.inl rfl,rfl⟩]
    exact z9c _ _ bl off cap an am ab bn bm bb w hg c0 c1 c2 c3 d0 d1 d2 d3 (.round1 rfl rfl _ R)
   ·rw [if_neg (fun h=>h' h.2)]
    exact z9c _ bk bl off cap an am ab bn bm bb w hg c0 c1 c2 c3 d0 d1 d2 d3 (.round_noB1 rfl (no _ 1 h'))
  ·by_cases h2:ak=2
   ·subst h2
    by_cases h':bk=1
    ·subst h'
     rw [if_pos ⟨show isn _ from Or.inr rfl,rfl⟩]
     exact z9c _ _ bl off cap an am ab bn bm bb w hg c0 c1 c2 c3 d0 d1 d2 d3 (.round2 rfl rfl _ R)
    ·rw [if_neg (fun h=>h' h.2)]
     exact z9c _ bk bl off cap an am ab bn bm bb w hg c0 c1 c2 c3 d0 d1 d2 d3 (.round_noB2 rfl (no _ 1 h'))
   ·rw [if_neg (fun h'=>by have g:ak=1∨ak=2:=h'.1;omega)]
    exact z9c ak bk bl off cap an am ab bn bm bb w hg c0 c1 c2 c3 d0 d1 d2 d3 (.round_noA (no _ 1 h) (no _ 2 h2))
theorem qfunction_any (nm:List UInt8) (ao:Option Addr) (cap:Nat) (l:List Va) (w:World) (hT:Tabs w) (hP:Pw w) (hv:Vs w ao l) (hl:l.length≤140737488351232) (hi:∀ x∈l,vin x) :
  Calls Tryz.prog 82 #[.string ⟨nm.toArray⟩,.slice ao l.length cap] w fun e w'=>e=.returned (rs (funR nm l))∧Below w.heap.size w w':=by
 have A:z0s 59 #[.slice ao l.length cap] w (.bool (l.all vr)):=fun W h=>qall_any ao cap l W (hT.later h) (hv.later h) (by omega)
 have I:z0s 110 #[.string ⟨nm.toArray⟩,.int .i64 (l.length:Int)] w (.bool (isF nm l.length)):=fun W _=>(isf_any nm l.length W).mono fun _ _ h=>⟨h.1,h.2▸Below.refl _ _⟩
 have C:z0s 112 #[.slice ao l.length cap,va 0 0 0 ⟨#[]⟩] w (.bool (l.any zq)):=fun W h=>qcont_any ao cap l W (hv.later h) hl
 unfold funR
 cases ha:l.all vr
 ·rw [if_pos rfl]
  rw [ha] at A
  exact fun_bad _ ao _ cap w A
 rw [if_neg (by simp)]
 rw [ha] at A
 cases hf:isF nm l.length
 ·rw [if_pos rfl]
  rw [hf] at I
  exact fun_name _ ao _ cap w A I
 rw [if_neg (by simp)]
 rw [hf] at I
 by_cases hc:nm=z7y
 ·subst hc
  rw [if_pos rfl]
  have hb:∀ x∈l,x.b.length≤140737488351232:=fun x hx=>by
   have hv:=(z3u x).1 (List.all_eq_true.1 ha x hx)
   simp only [vok] at hv
   rcases hv with h|h|h|h|h|h
   ·rw [h.2.2.2];exact Nat.zero_le _
   ·rw [h.2.2];exact Nat.zero_le _
   ·rw [h.2.2.2];exact Nat.zero_le _
   ·omega
   ·rw [h.2.2.2];exact Nat.zero_le _
   ·rw [h.2.2.2.2.2];exact Nat.zero_le _
  exact fun_coal ao _ cap w _ _ _ _ A I (fun W h=>qfirst_any ao cap l W (hv.later h) (by omega) hb)
 rw [if_neg hc]
 have e7:((⟨nm.toArray⟩:ByteArray).toList==[99,111,97,108,101,115,99,101])=false:=by rw [toList_arr];exact beq_eq_false_iff_ne.2 hc
 cases hz:l.any zq
 ·rw [if_neg (by simp)]
  rw [hz] at C
  refine fun_call _ ao _ cap w _ _ _ _ _ e7 A I C (fun W h=>?_)
  have hv':=hv.later h
  have hall:∀ x∈l,vr x=true:=List.all_eq_true.1 ha
  by_cases h1:nm=sLength∨nm=sAbs∨nm=sNorm∨nm=sPx∨nm=sPy
  ·have hn:l.length=1:=by unfold isF at hf;rw [if_pos h1] at hf;simpa using hf
   clear A I C hl
   obtain ⟨a,rfl⟩:=List.length_eq_one_iff.1 hn
   ·obtain ⟨bl,off,rfl,hc⟩:=hv' (by simp)
    have h4:=hc 0 (by simp)
    simp only [Nat.zero_mul,Nat.add_zero] at h4
    exact cal1_any nm bl off cap a W (hT.later h) (hP.below h) h4 (hall a (by simp)) (hi a (by simp)) h1
  ·have h2:nm=sPoint∨nm=sRound:=by
    unfold isF at hf
    rw [if_neg h1] at hf
    by_cases h2:nm=sPoint∨nm=sRound
    ·exact h2
    ·rw [if_neg h2,if_neg hc] at hf
     cases hf
   have hn:l.length=2:=by unfold isF at hf;rw [if_neg h1,if_pos h2] at hf;simpa using hf
   clear A I C hl
   obtain ⟨a,b,rfl⟩:=two_of hn
   ·obtain ⟨bl,off,rfl,hc⟩:=hv' (by simp)
    have h4:=hc 0 (by simp)
    have g4:=hc 1 (by simp)
    simp only [Nat.zero_mul,Nat.add_zero,Nat.one_mul] at h4 g4
    exact cal2_any nm bl off cap a b W (hP.below h) h4 g4 (hi a (by simp)) h2
 ·rw [if_pos rfl]
  rw [hz] at C
  exact fun_null _ ao _ cap w e7 A I C
end Go.Proofs.YtljkonkfeiojnaaGreatDoor
