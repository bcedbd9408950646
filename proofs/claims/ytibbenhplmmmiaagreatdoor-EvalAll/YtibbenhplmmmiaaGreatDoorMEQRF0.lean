/-
  eval.called, name by name.
  eval.Function.
  eval.Function, whole.
  The document's answers for eval: the smallest functions.
  The document's answers for eval: points.
  The document's answers for eval: Binary, path by path.
  The document's answers for eval: known names.
-/
import Derived.Test.YtibbenhplmmmiaaGreatDoorMDQFun2
import Derived.Test.YtibbenhplmmmiaaGreatDoorMAHRef4
import Derived.Test.YtibbenhplmmmiaaGreatDoorMBQNums
import Derived.Test.YtibbenhplmmmiaaGreatDoorMvVOrd1
set_option maxHeartbeats 20000000
set_option maxRecDepth 20000
namespace Go.Proofs.YtibbenhplmmmiaaGreatDoor
open Go.RowKit Go.Shelf
attribute [local go_sem] z0e z0b z0c z0f z0m z0k z0h z0d z0g z1r z1e z1x z1d z1q z1s z1z z1p z1y z1k z1u
inductive QC1 (w:World) (ak an am:Int) (ab:List UInt8):ByteArray→Value→Prop
 | length_no (e3:(ak==3)=false):QC1 w ak an am ab (⟨#[108,101,110,103,116,104]⟩) (.tuple #[va 0 0 0 ⟨#[]⟩,.int .i64 31])
 | abs1 (ka:ak=1) (rk rn rm re:Int) (rb:ByteArray) (F:z0n 178 #[va 1 an am ⟨ab.toArray⟩] w (.tuple #[va rk rn rm rb,.int .i64 re])):QC1 w ak an am ab (⟨#[97,98,115]⟩) (.tuple #[va rk rn rm rb,.int .i64 re])
 | abs2 (ka:ak=2) (rk rn rm re:Int) (rb:ByteArray) (F:z0n 178 #[va 2 an am ⟨ab.toArray⟩] w (.tuple #[va rk rn rm rb,.int .i64 re])):QC1 w ak an am ab (⟨#[97,98,115]⟩) (.tuple #[va rk rn rm rb,.int .i64 re])
 | abs_no (e1:(ak==1)=false) (e2:(ak==2)=false):QC1 w ak an am ab (⟨#[97,98,115]⟩) (.tuple #[va 0 0 0 ⟨#[]⟩,.int .i64 31])
 | norm (ka:ak=5)  (x:Int) (D:∀ W,Calls Tryz.prog 179 #[dv an am] W fun e w'=>e=.returned (.int .i64 x)∧Grew W w'):QC1 w ak an am ab (⟨#[110,111,114,109]⟩) (rs (z0v x 0))
 | norm_no (e5:(ak==5)=false):QC1 w ak an am ab (⟨#[110,111,114,109]⟩) (.tuple #[va 0 0 0 ⟨#[]⟩,.int .i64 31])
 | px (ka:ak=5):QC1 w ak an am ab (⟨#[112,120]⟩) (rs (z0v an 0))
 | px_no (e5:(ak==5)=false):QC1 w ak an am ab (⟨#[112,120]⟩) (.tuple #[va 0 0 0 ⟨#[]⟩,.int .i64 31])
 | py (ka:ak=5):QC1 w ak an am ab (⟨#[112,121]⟩) (rs (z0v am 0))
 | py_no (e5:(ak==5)=false):QC1 w ak an am ab (⟨#[112,121]⟩) (.tuple #[va 0 0 0 ⟨#[]⟩,.int .i64 31])
 | length (ka:ak=3):QC1 w ak an am ab (⟨#[108,101,110,103,116,104]⟩) (rs (z0v (ab.length:Int) 0))
theorem z6e {nm:ByteArray} {R:Value} (ak:Int) (bl off cap:Nat) (an am:Int) (ab:List UInt8) (w:World) (hg:bl<w.heap.size) (c0:w.cell? ⟨bl,off,none⟩=some (.int .i64 ak)) (c1:w.cell? ⟨bl,off+1,none⟩=some (.int .i64 an)) (c2:w.cell? ⟨bl,off+2,none⟩=some (.int .i64 am)) (c3:w.cell? ⟨bl,off+3,none⟩=some (.string ⟨ab.toArray⟩))
  (C:QC1 w ak an am ab nm R)
:
  Calls Tryz.prog 112 #[.string nm,.slice (some ⟨bl,off,none⟩) 1 cap] w fun e w'=>e=.returned R∧Below w.heap.size w w':=by
 obtain ⟨w0,hw0,bxr,Bw⟩:=z2r w
 have z0:IntKind.i64.wrap 0=0:=by rw [IntKind.wrap_i64];rfl
 go_enter Tryz.func112,Tryz.ntmps112
 go_wp2_with fail
 rw [← hw0]
 clear hw0
 rw [← Bw.cell (p:=⟨bl,off,none⟩) hg] at c0
 rw [← Bw.cell (p:=⟨bl,off+1,none⟩) hg] at c1
 rw [← Bw.cell (p:=⟨bl,off+2,none⟩) hg] at c2
 rw [← Bw.cell (p:=⟨bl,off+3,none⟩) hg] at c3
 replace hg:bl<w0.heap.size:=Nat.lt_of_lt_of_le hg Bw.size
 go_cut [6,7] from 8 (fun s0 s1 wx=>∃ p q:Nat,s0=.pointer (some ⟨p,0,none⟩)∧s1=.pointer (some ⟨q,0,none⟩)∧(wx.cell? ⟨p,0,none⟩=some (.int .i64 ak)∧wx.cell? ⟨p,1,none⟩=some (.int .i64 an)∧wx.cell? ⟨p,2,none⟩=some (.int .i64 am)∧wx.cell? ⟨p,3,none⟩=some (.string ⟨ab.toArray⟩))∧(wx.cell? ⟨q,0,none⟩=some (.int .i64 ak)∧wx.cell? ⟨q,1,none⟩=some (.int .i64 an)∧wx.cell? ⟨q,2,none⟩=some (.int .i64 am)∧wx.cell? ⟨q,3,none⟩=some (.string ⟨ab.toArray⟩))∧w0.heap.size≤p∧w0.heap.size≤q∧Grew w0 wx)
 case first =>
  refine wp_region_held_drew (S:=(fun W=>W.cell? ⟨bl,off,none⟩=some (.int .i64 ak)∧W.cell? ⟨bl,off+1,none⟩=some (.int .i64 an)∧W.cell? ⟨bl,off+2,none⟩=some (.int .i64 am)∧W.cell? ⟨bl,off+3,none⟩=some (.string ⟨ab.toArray⟩))) gK ?_ (fun hHeld=>?_)
  ·((try dsimp only);(simp (maxDischargeDepth:=12) [go_sem,c0,c1,c2,c3]))
  refine wpAnyH_take (i:=0) (oi:=qcO0) (v:=?_) rfl gK gK gK (fun _ _ _ h=>h) (Or.inl ⟨by rfl,?_⟩) (by assumption) ?_
  rotate_left
  ·(intro W hSw;(try dsimp only at hSw);try simp only [qcO0];first|(go_simp;done)|(go_simp;with_reducible rfl))
  try simp only [qcO0,Act.put,List.setIfInBounds_toArray,List.set_cons_zero,List.set_cons_succ]
  refine wpAnyH_take (i:=1) (oi:=qcO1) (v:=?_) rfl gK gK gK (fun _ _ _ h=>h) (Or.inl ⟨by rfl,?_⟩) (by assumption) ?_
  rotate_left
  ·(intro W hSw;(try dsimp only at hSw);try simp only [qcO1];first|(go_simp;done)|(go_simp;with_reducible rfl))
  try simp only [qcO1,Act.put,List.setIfInBounds_toArray,List.set_cons_zero,List.set_cons_succ]
  refine wpAnyH_take (i:=2) (oi:=qcO2) (v:=?_) rfl gK gK gK (fun _ _ _ h=>h) (Or.inl ⟨by rfl,?_⟩) (by assumption) ?_
  rotate_left
  ·(intro W hSw;(try dsimp only at hSw);try simp only [qcO2];first|(go_simp;done)|(go_simp;with_reducible rfl))
  try simp only [qcO2,Act.put,List.setIfInBounds_toArray,List.set_cons_zero,List.set_cons_succ]
  refine wpAnyH_take (i:=3) (oi:=qcO3) (v:=?_) rfl gK gK gK (fun _ _ _ h=>h) (Or.inl ⟨by rfl,?_⟩) (by assumption) ?_
  rotate_left
  ·(intro W hSw;(try dsimp only at hSw);try simp only [qcO3];first|(go_simp;done)|(go_simp;with_reducible rfl))
  try simp only [qcO3,Act.put,List.setIfInBounds_toArray,List.set_cons_zero,List.set_cons_succ]
  refine wpAnyH_take (i:=4) (oi:=qcO4) (v:=?_) rfl gK gK gK (fun _ _ _ h=>h) (Or.inl ⟨by rfl,?_⟩) (by assumption) ?_
  rotate_left
  ·(intro W hSw;(try dsimp only at hSw);try simp only [qcO4];first|(go_simp;done)|(go_simp;with_reducible rfl))
  try simp only [qcO4,Act.put,List.setIfInBounds_toArray,List.set_cons_zero,List.set_cons_succ]
  refine wpAnyH_take (i:=5) (oi:=qcO5) (v:=?_) rfl gK gK gK (fun _ _ _ h=>h) (Or.inl ⟨by rfl,?_⟩) (by assumption) ?_
  rotate_left
  ·(intro W hSw;(try dsimp only at hSw);try simp only [qcO5];first|(go_simp;done)|(go_simp;with_reducible rfl))
  try simp only [qcO5,Act.put,List.setIfInBounds_toArray,List.set_cons_zero,List.set_cons_succ]
  refine wpAnyH_take (i:=6) (oi:=qcO6) (v:=?_) rfl gK gK gK (fun _ _ _ h=>h) (Or.inl ⟨by rfl,?_⟩) (by assumption) ?_
  rotate_left
  ·(intro W hSw;(try dsimp only at hSw);try simp only [qcO6];first|(go_simp;done)|(go_simp;with_reducible rfl))
  try simp only [qcO6,Act.put,List.setIfInBounds_toArray,List.set_cons_zero,List.set_cons_succ]
  refine wpAnyH_take (i:=7) (oi:=qcO7) (v:=?_) rfl gK gK gK (fun _ _ _ h=>h) (Or.inl ⟨by rfl,?_⟩) (by assumption) ?_
  rotate_left
  ·(intro W hSw;(try dsimp only at hSw);try simp only [qcO7];first|(go_simp;done)|(go_simp;with_reducible rfl))
  try simp only [qcO7,Act.put,List.setIfInBounds_toArray,List.set_cons_zero,List.set_cons_succ]
  refine wpAnyH_take (i:=8) (oi:=qcO8) (v:=?_) rfl gK gK gK (fun _ _ _ h=>h) (Or.inl ⟨by rfl,?_⟩) (by assumption) ?_
  rotate_left
  ·(intro W hSw;(try dsimp only at hSw);try simp only [qcO8];first|(go_simp;done)|(go_simp;with_reducible rfl))
  try simp only [qcO8,Act.put,List.setIfInBounds_toArray,List.set_cons_zero,List.set_cons_succ]
  refine wpAnyH_ready (rs:=[9,10]) gK (by simp) ?_
  refine AllReadyH.cons (o:=qcO9) rfl (fun K hK=>?_) (AllReadyH.cons (o:=z9t) rfl (fun K hK=>?_) AllReadyH.nil)
  ·
   try simp only [qcO9]
   go_simp
   refine hK.out _ _ ?_ (fun hHeld=>?_)
   ·((try dsimp only);(simp (maxDischargeDepth:=12) [go_sem,c0,c1,c2,c3,hg]))
   clear hK K
   try simp only [Act.put,sA,sB,sC]
   refine wpAnyH_ready (rs:=[10]) gK (by simp) ?_
   refine AllReadyH.cons (o:=z9t) rfl (fun K hK=>?_) AllReadyH.nil
   try simp only [z9t]
   go_simp
   refine hK.out _ _ ?_ (fun hHeld=>?_)
   ·((try dsimp only);(simp (maxDischargeDepth:=12) [go_sem,c0,c1,c2,c3,hg]))
   clear hK K
   try simp only [Act.put,sA,sB,sC]
   refine wpAnyH_ready (rs:=[11]) gK (by simp) ?_
   refine AllReadyH.cons (o:=z9r) rfl (fun K hK=>?_) AllReadyH.nil
   try simp only [z9r]
   go_simp
   refine hK.out _ _ ?_ (fun hHeld=>?_)
   ·((try dsimp only);(simp (maxDischargeDepth:=12) [go_sem,c0,c1,c2,c3,hg]))
   clear hK K
   try simp only [Act.put,sA,sB,sC]
   refine wpAnyH_ready (rs:=[12]) gK (by simp) ?_
   refine AllReadyH.cons (o:=z9q) rfl (fun K hK=>?_) AllReadyH.nil
   try simp only [z9q]
   go_simp
   refine hK.out _ _ ?_ (fun hHeld=>?_)
   ·((try dsimp only);(simp (maxDischargeDepth:=12) [go_sem,c0,c1,c2,c3,hg]))
   clear hK K
   try simp only [Act.put,sA,sB,sC]
   refine wpAnyH_done gK ?_ _
   go_wp2_with fail
   go_meet
   exact ⟨_,_,rfl,rfl,⟨gD,gD,gD,gD⟩,⟨gD,gD,gD,gD⟩,by simp,by simp,gB⟩
  ·
   try simp only [z9t]
   go_simp
   refine hK.out _ _ ?_ (fun hHeld=>?_)
   ·((try dsimp only);(simp (maxDischargeDepth:=12) [go_sem,c0,c1,c2,c3,hg]))
   clear hK K
   try simp only [Act.put,sA,sB,sC]
   refine wpAnyH_ready (rs:=[9]) gK (by simp) ?_
   refine AllReadyH.cons (o:=qcO9) rfl (fun K hK=>?_) AllReadyH.nil
   try simp only [qcO9]
   go_simp
   refine hK.out _ _ ?_ (fun hHeld=>?_)
   ·((try dsimp only);(simp (maxDischargeDepth:=12) [go_sem,c0,c1,c2,c3,hg]))
   clear hK K
   try simp only [Act.put,sA,sB,sC]
   refine wpAnyH_ready (rs:=[11]) gK (by simp) ?_
   refine AllReadyH.cons (o:=z9r) rfl (fun K hK=>?_) AllReadyH.nil
   try simp only [z9r]
   go_simp
   refine hK.out _ _ ?_ (fun hHeld=>?_)
   ·((try dsimp only);(simp (maxDischargeDepth:=12) [go_sem,c0,c1,c2,c3,hg]))
   clear hK K
   try simp only [Act.put,sA,sB,sC]
   refine wpAnyH_ready (rs:=[12]) gK (by simp) ?_
   refine AllReadyH.cons (o:=z9q) rfl (fun K hK=>?_) AllReadyH.nil
   try simp only [z9q]
   go_simp
   refine hK.out _ _ ?_ (fun hHeld=>?_)
   ·((try dsimp only);(simp (maxDischargeDepth:=12) [go_sem,c0,c1,c2,c3,hg]))
   clear hK K
   try simp only [Act.put,sA,sB,sC]
   refine wpAnyH_done gK ?_ _
   go_wp2_with fail
   go_meet
   exact ⟨_,_,rfl,rfl,⟨gD,gD,gD,gD⟩,⟨gD,gD,gD,gD⟩,by simp,by simp,gB⟩
 rename World=>w1
 obtain ⟨p,q,rfl,rfl,⟨p0,p1,p2,p3⟩,⟨q0,q1,q2,q3⟩,gp,gq,g⟩:=hcut
 have lp:=World.block_lt_of_cell? w1 _ p0
 have lq:=World.block_lt_of_cell? w1 _ q0
 have B1:=g.below
 have br:=bxr.later B1
 obtain ⟨r0,r1,r2,r3⟩:=br.at4
 dsimp only [nul] at r0 r1 r2 r3
 simp only [Nat.zero_add] at r1 r2 r3
 have f0:=br.free 0
 have f1:=br.free 1
 have f2:=br.free 2
 have f3:=br.free 3
 have lt1:=br.lt
 have Be:=z0a Bw B1
 have lr:=bxr.lt
 have np:¬ w.heap.size=p:=by omega
 have nq:¬ w.heap.size=q:=by omega
 clear gp gq lr
 clear br bxr g c0 c1 c2 c3 hg
 cases C with
 | length_no e3 =>
  go_wp2
  refine bodyPost_ret_by (v:=.tuple #[va 0 0 0 ⟨#[]⟩,.int .i64 31]) ?_ rfl ⟨rfl,?_⟩
  ·simp [results,Tryz.results112,go_sem,r0,r1,r2,r3]
  ·refine z0a (Be.setCell (p:=⟨w.heap.size,0,none⟩) (Nat.le_refl _) (.int .i64 0) |>.setCell (p:=⟨w.heap.size,1,none⟩) (Nat.le_refl _) (.int .i64 0) |>.setCell (p:=⟨w.heap.size,2,none⟩) (Nat.le_refl _) (.int .i64 0) |>.setCell (p:=⟨w.heap.size,3,none⟩) (Nat.le_refl _) (.string ⟨#[]⟩)) (Grew.below ?_)
   repeat exact gB
 | abs1 ka rk rn rm re rb F =>
  subst ka
  go_wp2_with (first
   | (go_at_call 102;refine (z2g _ _ _ _ _).mono ?_;rintro e w2 ⟨rfl,os0,n0,rfl⟩)
   | (go_at_call 178;refine (F _ (z0a Be (z0z.below gC))).mono ?_;rintro e w2 ⟨rfl,bc⟩;obtain ⟨osc,dc,rfl⟩:=wide bc;clear bc))
  refine bodyPost_ret_by (v:=.tuple #[va rk rn rm rb,.int .i64 re]) ?_ rfl ⟨rfl,?_⟩
  ·simp [results,Tryz.results112,go_sem,r0,r1,r2,r3,lt1]
  ·refine z0a (Be.setCell (p:=⟨w.heap.size,0,none⟩) (Nat.le_refl _) (.int .i64 rk) |>.setCell (p:=⟨w.heap.size,1,none⟩) (Nat.le_refl _) (.int .i64 rn) |>.setCell (p:=⟨w.heap.size,2,none⟩) (Nat.le_refl _) (.int .i64 rm) |>.setCell (p:=⟨w.heap.size,3,none⟩) (Nat.le_refl _) (.string rb)) (z0z.below ?_)
   repeat exact gC
 | abs2 ka rk rn rm re rb F =>
  subst ka
  go_wp2_with (first
   | (go_at_call 102;refine (z2g _ _ _ _ _).mono ?_;rintro e w2 ⟨rfl,os0,n0,rfl⟩)
   | (go_at_call 178;refine (F _ (z0a Be (z0z.below gC))).mono ?_;rintro e w2 ⟨rfl,bc⟩;obtain ⟨osc,dc,rfl⟩:=wide bc;clear bc))
  refine bodyPost_ret_by (v:=.tuple #[va rk rn rm rb,.int .i64 re]) ?_ rfl ⟨rfl,?_⟩
  ·simp [results,Tryz.results112,go_sem,r0,r1,r2,r3,lt1]
  ·refine z0a (Be.setCell (p:=⟨w.heap.size,0,none⟩) (Nat.le_refl _) (.int .i64 rk) |>.setCell (p:=⟨w.heap.size,1,none⟩) (Nat.le_refl _) (.int .i64 rn) |>.setCell (p:=⟨w.heap.size,2,none⟩) (Nat.le_refl _) (.int .i64 rm) |>.setCell (p:=⟨w.heap.size,3,none⟩) (Nat.le_refl _) (.string rb)) (z0z.below ?_)
   repeat exact gC
 | abs_no e1 e2 =>
  go_wp2_with (first
   | (go_at_call 102;refine (z2g _ _ _ _ _).mono ?_;rintro e w2 ⟨rfl,os0,n0,rfl⟩))
  refine bodyPost_ret_by (v:=.tuple #[va 0 0 0 ⟨#[]⟩,.int .i64 31]) ?_ rfl ⟨rfl,?_⟩
  ·simp [results,Tryz.results112,go_sem,r0,r1,r2,r3,lt1]
  ·refine z0a (Be.setCell (p:=⟨w.heap.size,0,none⟩) (Nat.le_refl _) (.int .i64 0) |>.setCell (p:=⟨w.heap.size,1,none⟩) (Nat.le_refl _) (.int .i64 0) |>.setCell (p:=⟨w.heap.size,2,none⟩) (Nat.le_refl _) (.int .i64 0) |>.setCell (p:=⟨w.heap.size,3,none⟩) (Nat.le_refl _) (.string ⟨#[]⟩)) (Grew.below ?_)
   repeat exact gB
 | norm ka x D =>
  subst ka
  go_wp2_with (first
   | (go_at_call 168;refine (z8g _ _ _ _ _).mono ?_;rintro e w2 ⟨rfl,os0,n0,rfl⟩)
   | (go_at_call 179;refine (D _).mono ?_;rintro e w2 ⟨rfl,os1,n1,rfl⟩)
   | (go_at_call 155;refine (z2e _ _ _).mono ?_;rintro e w2 ⟨rfl,os2,n2,rfl⟩))
  refine bodyPost_ret_by (v:=rs (z0v x 0)) ?_ rfl ⟨rfl,?_⟩
  ·simp [results,Tryz.results112,go_sem,r0,r1,r2,r3,lt1]
  ·refine z0a (Be.setCell (p:=⟨w.heap.size,0,none⟩) (Nat.le_refl _) (.int .i64 (z0v x 0).1.k) |>.setCell (p:=⟨w.heap.size,1,none⟩) (Nat.le_refl _) (.int .i64 (z0v x 0).1.n) |>.setCell (p:=⟨w.heap.size,2,none⟩) (Nat.le_refl _) (.int .i64 (z0v x 0).1.m) |>.setCell (p:=⟨w.heap.size,3,none⟩) (Nat.le_refl _) (.string ⟨(z0v x 0).1.b.toArray⟩)) (Grew.below ?_)
   repeat exact gB
 | norm_no e5 =>
  go_wp2
  refine bodyPost_ret_by (v:=.tuple #[va 0 0 0 ⟨#[]⟩,.int .i64 31]) ?_ rfl ⟨rfl,?_⟩
  ·simp [results,Tryz.results112,go_sem,r0,r1,r2,r3]
  ·refine z0a (Be.setCell (p:=⟨w.heap.size,0,none⟩) (Nat.le_refl _) (.int .i64 0) |>.setCell (p:=⟨w.heap.size,1,none⟩) (Nat.le_refl _) (.int .i64 0) |>.setCell (p:=⟨w.heap.size,2,none⟩) (Nat.le_refl _) (.int .i64 0) |>.setCell (p:=⟨w.heap.size,3,none⟩) (Nat.le_refl _) (.string ⟨#[]⟩)) (Grew.below ?_)
   repeat exact gB
 | px ka =>
  subst ka
  go_wp2_with (first
   | (go_at_call 155;refine (z2e _ _ _).mono ?_;rintro e w2 ⟨rfl,os2,n2,rfl⟩))
  refine bodyPost_ret_by (v:=rs (z0v an 0)) ?_ rfl ⟨rfl,?_⟩
  ·simp [results,Tryz.results112,go_sem,r0,r1,r2,r3,lt1]
  ·refine z0a (Be.setCell (p:=⟨w.heap.size,0,none⟩) (Nat.le_refl _) (.int .i64 (z0v an 0).1.k) |>.setCell (p:=⟨w.heap.size,1,none⟩) (Nat.le_refl _) (.int .i64 (z0v an 0).1.n) |>.setCell (p:=⟨w.heap.size,2,none⟩) (Nat.le_refl _) (.int .i64 (z0v an 0).1.m) |>.setCell (p:=⟨w.heap.size,3,none⟩) (Nat.le_refl _) (.string ⟨(z0v an 0).1.b.toArray⟩)) (Grew.below ?_)
   repeat exact gB
 | px_no e5 =>
  go_wp2
  refine bodyPost_ret_by (v:=.tuple #[va 0 0 0 ⟨#[]⟩,.int .i64 31]) ?_ rfl ⟨rfl,?_⟩
  ·simp [results,Tryz.results112,go_sem,r0,r1,r2,r3]
  ·refine z0a (Be.setCell (p:=⟨w.heap.size,0,none⟩) (Nat.le_refl _) (.int .i64 0) |>.setCell (p:=⟨w.heap.size,1,none⟩) (Nat.le_refl _) (.int .i64 0) |>.setCell (p:=⟨w.heap.size,2,none⟩) (Nat.le_refl _) (.int .i64 0) |>.setCell (p:=⟨w.heap.size,3,none⟩) (Nat.le_refl _) (.string ⟨#[]⟩)) (Grew.below ?_)
   repeat exact gB
 | py ka =>
  subst ka
  go_wp2_with (first
   | (go_at_call 155;refine (z2e _ _ _).mono ?_;rintro e w2 ⟨rfl,os2,n2,rfl⟩))
  refine bodyPost_ret_by (v:=rs (z0v am 0)) ?_ rfl ⟨rfl,?_⟩
  ·simp [results,Tryz.results112,go_sem,r0,r1,r2,r3,lt1]
  ·refine z0a (Be.setCell (p:=⟨w.heap.size,0,none⟩) (Nat.le_refl _) (.int .i64 (z0v am 0).1.k) |>.setCell (p:=⟨w.heap.size,1,none⟩) (Nat.le_refl _) (.int .i64 (z0v am 0).1.n) |>.setCell (p:=⟨w.heap.size,2,none⟩) (Nat.le_refl _) (.int .i64 (z0v am 0).1.m) |>.setCell (p:=⟨w.heap.size,3,none⟩) (Nat.le_refl _) (.string ⟨(z0v am 0).1.b.toArray⟩)) (Grew.below ?_)
   repeat exact gB
 | py_no e5 =>
  go_wp2
  refine bodyPost_ret_by (v:=.tuple #[va 0 0 0 ⟨#[]⟩,.int .i64 31]) ?_ rfl ⟨rfl,?_⟩
  ·simp [results,Tryz.results112,go_sem,r0,r1,r2,r3]
  ·refine z0a (Be.setCell (p:=⟨w.heap.size,0,none⟩) (Nat.le_refl _) (.int .i64 0) |>.setCell (p:=⟨w.heap.size,1,none⟩) (Nat.le_refl _) (.int .i64 0) |>.setCell (p:=⟨w.heap.size,2,none⟩) (Nat.le_refl _) (.int .i64 0) |>.setCell (p:=⟨w.heap.size,3,none⟩) (Nat.le_refl _) (.string ⟨#[]⟩)) (Grew.below ?_)
   repeat exact gB
 | length ka =>
  subst ka
  go_wp2_with (first
   | (go_at_call 155;refine (z2e _ _ _).mono ?_;rintro e w2 ⟨rfl,os2,n2,rfl⟩))
  refine bodyPost_ret_by (v:=rs (z0v (ab.length:Int) 0)) ?_ rfl ⟨rfl,?_⟩
  ·simp [results,Tryz.results112,go_sem,r0,r1,r2,r3,lt1]
  ·refine z0a (Be.setCell (p:=⟨w.heap.size,0,none⟩) (Nat.le_refl _) (.int .i64 (z0v (ab.length:Int) 0).1.k) |>.setCell (p:=⟨w.heap.size,1,none⟩) (Nat.le_refl _) (.int .i64 (z0v (ab.length:Int) 0).1.n) |>.setCell (p:=⟨w.heap.size,2,none⟩) (Nat.le_refl _) (.int .i64 (z0v (ab.length:Int) 0).1.m) |>.setCell (p:=⟨w.heap.size,3,none⟩) (Nat.le_refl _) (.string ⟨(z0v (ab.length:Int) 0).1.b.toArray⟩)) (Grew.below ?_)
   repeat exact gB
inductive QC2 (w:World) (ak an am:Int) (ab:List UInt8) (bk bn bm:Int) (bb:List UInt8):ByteArray→Value→Prop
 | point (ka:ak=1) (kb:bk=1):QC2 w ak an am ab bk bn bm bb (⟨#[112,111,105,110,116]⟩) (rs (ptAtR an bn))
 | point_noA (e1:(ak==1)=false):QC2 w ak an am ab bk bn bm bb (⟨#[112,111,105,110,116]⟩) (.tuple #[va 0 0 0 ⟨#[]⟩,.int .i64 31])
 | point_noB (ka:ak=1) (e1:(bk==1)=false):QC2 w ak an am ab bk bn bm bb (⟨#[112,111,105,110,116]⟩) (.tuple #[va 0 0 0 ⟨#[]⟩,.int .i64 31])
 | round1 (ka:ak=1) (kb:bk=1)  (r:Va × Int) (D:∀ W,Below w.heap.size w W→Calls Tryz.prog 181 #[dv an am,.int .i64 bn] W fun e w'=>e=.returned (rs r)∧Grew W w'):QC2 w ak an am ab bk bn bm bb (⟨#[114,111,117,110,100]⟩) (rs r)
 | round2 (ka:ak=2) (kb:bk=1)  (r:Va × Int) (D:∀ W,Below w.heap.size w W→Calls Tryz.prog 181 #[dv an am,.int .i64 bn] W fun e w'=>e=.returned (rs r)∧Grew W w'):QC2 w ak an am ab bk bn bm bb (⟨#[114,111,117,110,100]⟩) (rs r)
 | round_noA (e1:(ak==1)=false) (e2:(ak==2)=false):QC2 w ak an am ab bk bn bm bb (⟨#[114,111,117,110,100]⟩) (.tuple #[va 0 0 0 ⟨#[]⟩,.int .i64 31])
 | round_noB1 (ka:ak=1) (e1:(bk==1)=false):QC2 w ak an am ab bk bn bm bb (⟨#[114,111,117,110,100]⟩) (.tuple #[va 0 0 0 ⟨#[]⟩,.int .i64 31])
 | round_noB2 (ka:ak=2) (e1:(bk==1)=false):QC2 w ak an am ab bk bn bm bb (⟨#[114,111,117,110,100]⟩) (.tuple #[va 0 0 0 ⟨#[]⟩,.int .i64 31])
theorem z9h {nm:ByteArray} {R:Value} (ak:Int) (bk:Int) (bl off cap:Nat) (an am:Int) (ab:List UInt8) (bn bm:Int) (bb:List UInt8) (w:World) (hg:bl<w.heap.size) (c0:w.cell? ⟨bl,off,none⟩=some (.int .i64 ak)) (c1:w.cell? ⟨bl,off+1,none⟩=some (.int .i64 an)) (c2:w.cell? ⟨bl,off+2,none⟩=some (.int .i64 am)) (c3:w.cell? ⟨bl,off+3,none⟩=some (.string ⟨ab.toArray⟩)) (d0:w.cell? ⟨bl,off+4,none⟩=some (.int .i64 bk)) (d1:w.cell? ⟨bl,off+4+1,none⟩=some (.int .i64 bn)) (d2:w.cell? ⟨bl,off+4+2,none⟩=some (.int .i64 bm)) (d3:w.cell? ⟨bl,off+4+3,none⟩=some (.string ⟨bb.toArray⟩))
  (C:QC2 w ak an am ab bk bn bm bb nm R)
:
  Calls Tryz.prog 112 #[.string nm,.slice (some ⟨bl,off,none⟩) 2 cap] w fun e w'=>e=.returned R∧Below w.heap.size w w':=by
 obtain ⟨w0,hw0,bxr,Bw⟩:=z2r w
 have z0:IntKind.i64.wrap 1=1:=by rw [IntKind.wrap_i64];rfl
 go_enter Tryz.func112,Tryz.ntmps112
 go_wp2_with fail
 rw [← hw0]
 clear hw0
 rw [← Bw.cell (p:=⟨bl,off,none⟩) hg] at c0
 rw [← Bw.cell (p:=⟨bl,off+1,none⟩) hg] at c1
 rw [← Bw.cell (p:=⟨bl,off+2,none⟩) hg] at c2
 rw [← Bw.cell (p:=⟨bl,off+3,none⟩) hg] at c3
 rw [← Bw.cell (p:=⟨bl,off+4,none⟩) hg] at d0
 rw [← Bw.cell (p:=⟨bl,off+4+1,none⟩) hg] at d1
 rw [← Bw.cell (p:=⟨bl,off+4+2,none⟩) hg] at d2
 rw [← Bw.cell (p:=⟨bl,off+4+3,none⟩) hg] at d3
 replace hg:bl<w0.heap.size:=Nat.lt_of_lt_of_le hg Bw.size
 go_cut [6,7] from 8 (fun s0 s1 wx=>∃ p q:Nat,s0=.pointer (some ⟨p,0,none⟩)∧s1=.pointer (some ⟨q,0,none⟩)∧(wx.cell? ⟨p,0,none⟩=some (.int .i64 ak)∧wx.cell? ⟨p,1,none⟩=some (.int .i64 an)∧wx.cell? ⟨p,2,none⟩=some (.int .i64 am)∧wx.cell? ⟨p,3,none⟩=some (.string ⟨ab.toArray⟩))∧(wx.cell? ⟨q,0,none⟩=some (.int .i64 bk)∧wx.cell? ⟨q,1,none⟩=some (.int .i64 bn)∧wx.cell? ⟨q,2,none⟩=some (.int .i64 bm)∧wx.cell? ⟨q,3,none⟩=some (.string ⟨bb.toArray⟩))∧w0.heap.size≤p∧w0.heap.size≤q∧Grew w0 wx)
 case first =>
  refine wp_region_held_drew (S:=(fun W=>W.cell? ⟨bl,off,none⟩=some (.int .i64 ak)∧W.cell? ⟨bl,off+1,none⟩=some (.int .i64 an)∧W.cell? ⟨bl,off+2,none⟩=some (.int .i64 am)∧W.cell? ⟨bl,off+3,none⟩=some (.string ⟨ab.toArray⟩)∧W.cell? ⟨bl,off+4,none⟩=some (.int .i64 bk)∧W.cell? ⟨bl,off+4+1,none⟩=some (.int .i64 bn)∧W.cell? ⟨bl,off+4+2,none⟩=some (.int .i64 bm)∧W.cell? ⟨bl,off+4+3,none⟩=some (.string ⟨bb.toArray⟩))) gK ?_ (fun hHeld=>?_)
  ·((try dsimp only);(simp (maxDischargeDepth:=12) [go_sem,c0,c1,c2,c3,d0,d1,d2,d3]))
  refine wpAnyH_take (i:=0) (oi:=qcO0) (v:=?_) rfl gK gK gK (fun _ _ _ h=>h) (Or.inl ⟨by rfl,?_⟩) (by assumption) ?_
  rotate_left
  ·(intro W hSw;(try dsimp only at hSw);try simp only [qcO0];first|(go_simp;done)|(go_simp;with_reducible rfl))
  try simp only [qcO0,Act.put,List.setIfInBounds_toArray,List.set_cons_zero,List.set_cons_succ]
  refine wpAnyH_take (i:=1) (oi:=qcO1) (v:=?_) rfl gK gK gK (fun _ _ _ h=>h) (Or.inl ⟨by rfl,?_⟩) (by assumption) ?_
  rotate_left
  ·(intro W hSw;(try dsimp only at hSw);try simp only [qcO1];first|(go_simp;done)|(go_simp;with_reducible rfl))
  try simp only [qcO1,Act.put,List.setIfInBounds_toArray,List.set_cons_zero,List.set_cons_succ]
  refine wpAnyH_take (i:=2) (oi:=qcO2) (v:=?_) rfl gK gK gK (fun _ _ _ h=>h) (Or.inl ⟨by rfl,?_⟩) (by assumption) ?_
  rotate_left
  ·(intro W hSw;(try dsimp only at hSw);try simp only [qcO2];first|(go_simp;done)|(go_simp;with_reducible rfl))
  try simp only [qcO2,Act.put,List.setIfInBounds_toArray,List.set_cons_zero,List.set_cons_succ]
  refine wpAnyH_take (i:=3) (oi:=qcO3) (v:=?_) rfl gK gK gK (fun _ _ _ h=>h) (Or.inl ⟨by rfl,?_⟩) (by assumption) ?_
  rotate_left
  ·(intro W hSw;(try dsimp only at hSw);try simp only [qcO3];first|(go_simp;done)|(go_simp;with_reducible rfl))
  try simp only [qcO3,Act.put,List.setIfInBounds_toArray,List.set_cons_zero,List.set_cons_succ]
  refine wpAnyH_take (i:=4) (oi:=qcO4) (v:=?_) rfl gK gK gK (fun _ _ _ h=>h) (Or.inl ⟨by rfl,?_⟩) (by assumption) ?_
  rotate_left
  ·(intro W hSw;(try dsimp only at hSw);try simp only [qcO4];first|(go_simp;done)|(go_simp;with_reducible rfl))
  try simp only [qcO4,Act.put,List.setIfInBounds_toArray,List.set_cons_zero,List.set_cons_succ]
  refine wpAnyH_take (i:=5) (oi:=qcO5) (v:=?_) rfl gK gK gK (fun _ _ _ h=>h) (Or.inl ⟨by rfl,?_⟩) (by assumption) ?_
  rotate_left
  ·(intro W hSw;(try dsimp only at hSw);try simp only [qcO5];first|(go_simp;done)|(go_simp;with_reducible rfl))
  try simp only [qcO5,Act.put,List.setIfInBounds_toArray,List.set_cons_zero,List.set_cons_succ]
  refine wpAnyH_take (i:=6) (oi:=qcO6) (v:=?_) rfl gK gK gK (fun _ _ _ h=>h) (Or.inl ⟨by rfl,?_⟩) (by assumption) ?_
  rotate_left
  ·(intro W hSw;(try dsimp only at hSw);try simp only [qcO6];first|(go_simp;done)|(go_simp;with_reducible rfl))
  try simp only [qcO6,Act.put,List.setIfInBounds_toArray,List.set_cons_zero,List.set_cons_succ]
  refine wpAnyH_take (i:=7) (oi:=qcO7) (v:=?_) rfl gK gK gK (fun _ _ _ h=>h) (Or.inl ⟨by rfl,?_⟩) (by assumption) ?_
  rotate_left
  ·(intro W hSw;(try dsimp only at hSw);try simp only [qcO7];first|(go_simp;done)|(go_simp;with_reducible rfl))
  try simp only [qcO7,Act.put,List.setIfInBounds_toArray,List.set_cons_zero,List.set_cons_succ]
  refine wpAnyH_take (i:=8) (oi:=qcO8) (v:=?_) rfl gK gK gK (fun _ _ _ h=>h) (Or.inl ⟨by rfl,?_⟩) (by assumption) ?_
  rotate_left
  ·(intro W hSw;(try dsimp only at hSw);try simp only [qcO8];first|(go_simp;done)|(go_simp;with_reducible rfl))
  try simp only [qcO8,Act.put,List.setIfInBounds_toArray,List.set_cons_zero,List.set_cons_succ]
  refine wpAnyH_ready (rs:=[9,10]) gK (by simp) ?_
  refine AllReadyH.cons (o:=qcO9) rfl (fun K hK=>?_) (AllReadyH.cons (o:=z9t) rfl (fun K hK=>?_) AllReadyH.nil)
  ·
   try simp only [qcO9]
   go_simp
   refine hK.out _ _ ?_ (fun hHeld=>?_)
   ·((try dsimp only);(simp (maxDischargeDepth:=12) [go_sem,c0,c1,c2,c3,hg,d0,d1,d2,d3]))
   clear hK K
   try simp only [Act.put,sA,sB,sC]
   refine wpAnyH_ready (rs:=[10]) gK (by simp) ?_
   refine AllReadyH.cons (o:=z9t) rfl (fun K hK=>?_) AllReadyH.nil
   try simp only [z9t]
   go_simp
   refine hK.out _ _ ?_ (fun hHeld=>?_)
   ·((try dsimp only);(simp (maxDischargeDepth:=12) [go_sem,c0,c1,c2,c3,hg,d0,d1,d2,d3]))
   clear hK K
   try simp only [Act.put,sA,sB,sC]
   refine wpAnyH_ready (rs:=[11]) gK (by simp) ?_
   refine AllReadyH.cons (o:=z9r) rfl (fun K hK=>?_) AllReadyH.nil
   try simp only [z9r]
   go_simp
   refine hK.out _ _ ?_ (fun hHeld=>?_)
   ·((try dsimp only);(simp (maxDischargeDepth:=12) [go_sem,c0,c1,c2,c3,hg,d0,d1,d2,d3]))
   clear hK K
   try simp only [Act.put,sA,sB,sC]
   refine wpAnyH_ready (rs:=[12]) gK (by simp) ?_
   refine AllReadyH.cons (o:=z9q) rfl (fun K hK=>?_) AllReadyH.nil
   try simp only [z9q]
   go_simp
   refine hK.out _ _ ?_ (fun hHeld=>?_)
   ·((try dsimp only);(simp (maxDischargeDepth:=12) [go_sem,c0,c1,c2,c3,hg,d0,d1,d2,d3]))
   clear hK K
   try simp only [Act.put,sA,sB,sC]
   refine wpAnyH_done gK ?_ _
   go_wp2_with fail
   go_meet
   exact ⟨_,_,rfl,rfl,⟨gD,gD,gD,gD⟩,⟨gD,gD,gD,gD⟩,by simp,by simp,gB⟩
  ·
   try simp only [z9t]
   go_simp
   refine hK.out _ _ ?_ (fun hHeld=>?_)
   ·((try dsimp only);(simp (maxDischargeDepth:=12) [go_sem,c0,c1,c2,c3,hg,d0,d1,d2,d3]))
   clear hK K
   try simp only [Act.put,sA,sB,sC]
   refine wpAnyH_ready (rs:=[9]) gK (by simp) ?_
   refine AllReadyH.cons (o:=qcO9) rfl (fun K hK=>?_) AllReadyH.nil
   try simp only [qcO9]
   go_simp
   refine hK.out _ _ ?_ (fun hHeld=>?_)
   ·((try dsimp only);(simp (maxDischargeDepth:=12) [go_sem,c0,c1,c2,c3,hg,d0,d1,d2,d3]))
   clear hK K
   try simp only [Act.put,sA,sB,sC]
   refine wpAnyH_ready (rs:=[11]) gK (by simp) ?_
   refine AllReadyH.cons (o:=z9r) rfl (fun K hK=>?_) AllReadyH.nil
   try simp only [z9r]
   go_simp
   refine hK.out _ _ ?_ (fun hHeld=>?_)
   ·((try dsimp only);(simp (maxDischargeDepth:=12) [go_sem,c0,c1,c2,c3,hg,d0,d1,d2,d3]))
   clear hK K
   try simp only [Act.put,sA,sB,sC]
   refine wpAnyH_ready (rs:=[12]) gK (by simp) ?_
   refine AllReadyH.cons (o:=z9q) rfl (fun K hK=>?_) AllReadyH.nil
   try simp only [z9q]
   go_simp
   refine hK.out _ _ ?_ (fun hHeld=>?_)
   ·((try dsimp only);(simp (maxDischargeDepth:=12) [go_sem,c0,c1,c2,c3,hg,d0,d1,d2,d3]))
   clear hK K
   try simp only [Act.put,sA,sB,sC]
   refine wpAnyH_done gK ?_ _
   go_wp2_with fail
   go_meet
   exact ⟨_,_,rfl,rfl,⟨gD,gD,gD,gD⟩,⟨gD,gD,gD,gD⟩,by simp,by simp,gB⟩
 rename World=>w1
 obtain ⟨p,q,rfl,rfl,⟨p0,p1,p2,p3⟩,⟨q0,q1,q2,q3⟩,gp,gq,g⟩:=hcut
 have lp:=World.block_lt_of_cell? w1 _ p0
 have lq:=World.block_lt_of_cell? w1 _ q0
 have B1:=g.below
 have br:=bxr.later B1
 obtain ⟨r0,r1,r2,r3⟩:=br.at4
 dsimp only [nul] at r0 r1 r2 r3
 simp only [Nat.zero_add] at r1 r2 r3
 have f0:=br.free 0
 have f1:=br.free 1
 have f2:=br.free 2
 have f3:=br.free 3
 have lt1:=br.lt
 have Be:=z0a Bw B1
 have lr:=bxr.lt
 have np:¬ w.heap.size=p:=by omega
 have nq:¬ w.heap.size=q:=by omega
 clear gp gq lr
 clear br bxr g c0 c1 c2 c3 hg d0 d1 d2 d3
 cases C with
 | point ka kb =>
  subst ka
  subst kb
  go_wp2_with (first
   | (go_at_call 180;refine (qpointAt_any _ _ _).mono ?_;rintro e w2 ⟨rfl,os0,n0,rfl⟩))
  refine bodyPost_ret_by (v:=rs (ptAtR an bn)) ?_ rfl ⟨rfl,?_⟩
  ·simp [results,Tryz.results112,go_sem,r0,r1,r2,r3,lt1]
  ·refine z0a (Be.setCell (p:=⟨w.heap.size,0,none⟩) (Nat.le_refl _) (.int .i64 (ptAtR an bn).1.k) |>.setCell (p:=⟨w.heap.size,1,none⟩) (Nat.le_refl _) (.int .i64 (ptAtR an bn).1.n) |>.setCell (p:=⟨w.heap.size,2,none⟩) (Nat.le_refl _) (.int .i64 (ptAtR an bn).1.m) |>.setCell (p:=⟨w.heap.size,3,none⟩) (Nat.le_refl _) (.string ⟨(ptAtR an bn).1.b.toArray⟩)) (Grew.below ?_)
   repeat exact gB
 | point_noA e1 =>
  go_wp2
  refine bodyPost_ret_by (v:=.tuple #[va 0 0 0 ⟨#[]⟩,.int .i64 31]) ?_ rfl ⟨rfl,?_⟩
  ·simp [results,Tryz.results112,go_sem,r0,r1,r2,r3]
  ·refine z0a (Be.setCell (p:=⟨w.heap.size,0,none⟩) (Nat.le_refl _) (.int .i64 0) |>.setCell (p:=⟨w.heap.size,1,none⟩) (Nat.le_refl _) (.int .i64 0) |>.setCell (p:=⟨w.heap.size,2,none⟩) (Nat.le_refl _) (.int .i64 0) |>.setCell (p:=⟨w.heap.size,3,none⟩) (Nat.le_refl _) (.string ⟨#[]⟩)) (Grew.below ?_)
   repeat exact gB
 | point_noB ka e1 =>
  subst ka
  go_wp2
  refine bodyPost_ret_by (v:=.tuple #[va 0 0 0 ⟨#[]⟩,.int .i64 31]) ?_ rfl ⟨rfl,?_⟩
  ·simp [results,Tryz.results112,go_sem,r0,r1,r2,r3]
  ·refine z0a (Be.setCell (p:=⟨w.heap.size,0,none⟩) (Nat.le_refl _) (.int .i64 0) |>.setCell (p:=⟨w.heap.size,1,none⟩) (Nat.le_refl _) (.int .i64 0) |>.setCell (p:=⟨w.heap.size,2,none⟩) (Nat.le_refl _) (.int .i64 0) |>.setCell (p:=⟨w.heap.size,3,none⟩) (Nat.le_refl _) (.string ⟨#[]⟩)) (Grew.below ?_)
   repeat exact gB
 | round1 ka kb r D =>
  subst ka
  subst kb
  go_wp2_with (first
   | (go_at_call 102;refine (z2g _ _ _ _ _).mono ?_;rintro e w2 ⟨rfl,os0,n0,rfl⟩))
  go_region_held2 (fun W=>W.cell? ⟨p,0,none⟩=some (.int .i64 1)∧W.cell? ⟨p,1,none⟩=some (.int .i64 an)∧W.cell? ⟨p,2,none⟩=some (.int .i64 am)∧W.cell? ⟨p,3,none⟩=some (.string ⟨ab.toArray⟩)∧W.cell? ⟨q,1,none⟩=some (.int .i64 bn)) (simp (maxDischargeDepth:=12) [go_sem,p0,p1,p2,p3,q1,lp,lq]) (first
   | (go_at_call 104;refine (z3q _ _ _ _ _).mono ?_;rintro e w2 ⟨rfl,os1,n1,rfl⟩)
   | (go_at_call 181;refine (D _ (z0a Be (Grew.below gB))).mono ?_;rintro e w2 ⟨rfl,os2,n2,rfl⟩))
  all_goals go_wp2
  all_goals refine bodyPost_ret_by (v:=rs r) ?_ rfl ⟨rfl,?_⟩
  ·simp [results,Tryz.results112,go_sem,r0,r1,r2,r3,lt1]
  ·refine z0a (Be.setCell (p:=⟨w.heap.size,0,none⟩) (Nat.le_refl _) (.int .i64 (r).1.k) |>.setCell (p:=⟨w.heap.size,1,none⟩) (Nat.le_refl _) (.int .i64 (r).1.n) |>.setCell (p:=⟨w.heap.size,2,none⟩) (Nat.le_refl _) (.int .i64 (r).1.m) |>.setCell (p:=⟨w.heap.size,3,none⟩) (Nat.le_refl _) (.string ⟨(r).1.b.toArray⟩)) (Grew.below ?_)
   repeat exact gB
 | round2 ka kb r D =>
  subst ka
  subst kb
  go_wp2_with (first
   | (go_at_call 102;refine (z2g _ _ _ _ _).mono ?_;rintro e w2 ⟨rfl,os0,n0,rfl⟩))
  go_region_held2 (fun W=>W.cell? ⟨p,0,none⟩=some (.int .i64 2)∧W.cell? ⟨p,1,none⟩=some (.int .i64 an)∧W.cell? ⟨p,2,none⟩=some (.int .i64 am)∧W.cell? ⟨p,3,none⟩=some (.string ⟨ab.toArray⟩)∧W.cell? ⟨q,1,none⟩=some (.int .i64 bn)) (simp (maxDischargeDepth:=12) [go_sem,p0,p1,p2,p3,q1,lp,lq]) (first
   | (go_at_call 104;refine (z3q _ _ _ _ _).mono ?_;rintro e w2 ⟨rfl,os1,n1,rfl⟩)
   | (go_at_call 181;refine (D _ (z0a Be (Grew.below gB))).mono ?_;rintro e w2 ⟨rfl,os2,n2,rfl⟩))
  all_goals go_wp2
  all_goals refine bodyPost_ret_by (v:=rs r) ?_ rfl ⟨rfl,?_⟩
  ·simp [results,Tryz.results112,go_sem,r0,r1,r2,r3,lt1]
  ·refine z0a (Be.setCell (p:=⟨w.heap.size,0,none⟩) (Nat.le_refl _) (.int .i64 (r).1.k) |>.setCell (p:=⟨w.heap.size,1,none⟩) (Nat.le_refl _) (.int .i64 (r).1.n) |>.setCell (p:=⟨w.heap.size,2,none⟩) (Nat.le_refl _) (.int .i64 (r).1.m) |>.setCell (p:=⟨w.heap.size,3,none⟩) (Nat.le_refl _) (.string ⟨(r).1.b.toArray⟩)) (Grew.below ?_)
   repeat exact gB
 | round_noA e1 e2 =>
  go_wp2_with (first
   | (go_at_call 102;refine (z2g _ _ _ _ _).mono ?_;rintro e w2 ⟨rfl,os0,n0,rfl⟩))
  refine bodyPost_ret_by (v:=.tuple #[va 0 0 0 ⟨#[]⟩,.int .i64 31]) ?_ rfl ⟨rfl,?_⟩
  ·simp [results,Tryz.results112,go_sem,r0,r1,r2,r3,lt1]
  ·refine z0a (Be.setCell (p:=⟨w.heap.size,0,none⟩) (Nat.le_refl _) (.int .i64 0) |>.setCell (p:=⟨w.heap.size,1,none⟩) (Nat.le_refl _) (.int .i64 0) |>.setCell (p:=⟨w.heap.size,2,none⟩) (Nat.le_refl _) (.int .i64 0) |>.setCell (p:=⟨w.heap.size,3,none⟩) (Nat.le_refl _) (.string ⟨#[]⟩)) (Grew.below ?_)
   repeat exact gB
 | round_noB1 ka e1 =>
  subst ka
  go_wp2_with (first
   | (go_at_call 102;refine (z2g _ _ _ _ _).mono ?_;rintro e w2 ⟨rfl,os0,n0,rfl⟩))
  refine bodyPost_ret_by (v:=.tuple #[va 0 0 0 ⟨#[]⟩,.int .i64 31]) ?_ rfl ⟨rfl,?_⟩
  ·simp [results,Tryz.results112,go_sem,r0,r1,r2,r3,lt1]
  ·refine z0a (Be.setCell (p:=⟨w.heap.size,0,none⟩) (Nat.le_refl _) (.int .i64 0) |>.setCell (p:=⟨w.heap.size,1,none⟩) (Nat.le_refl _) (.int .i64 0) |>.setCell (p:=⟨w.heap.size,2,none⟩) (Nat.le_refl _) (.int .i64 0) |>.setCell (p:=⟨w.heap.size,3,none⟩) (Nat.le_refl _) (.string ⟨#[]⟩)) (Grew.below ?_)
   repeat exact gB
 | round_noB2 ka e1 =>
  subst ka
  go_wp2_with (first
   | (go_at_call 102;refine (z2g _ _ _ _ _).mono ?_;rintro e w2 ⟨rfl,os0,n0,rfl⟩))
  refine bodyPost_ret_by (v:=.tuple #[va 0 0 0 ⟨#[]⟩,.int .i64 31]) ?_ rfl ⟨rfl,?_⟩
  ·simp [results,Tryz.results112,go_sem,r0,r1,r2,r3,lt1]
  ·refine z0a (Be.setCell (p:=⟨w.heap.size,0,none⟩) (Nat.le_refl _) (.int .i64 0) |>.setCell (p:=⟨w.heap.size,1,none⟩) (Nat.le_refl _) (.int .i64 0) |>.setCell (p:=⟨w.heap.size,2,none⟩) (Nat.le_refl _) (.int .i64 0) |>.setCell (p:=⟨w.heap.size,3,none⟩) (Nat.le_refl _) (.string ⟨#[]⟩)) (Grew.below ?_)
   repeat exact gB
end Go.Proofs.YtibbenhplmmmiaaGreatDoor

namespace Go.Proofs.YtibbenhplmmmiaaGreatDoor
open Go.RowKit Go.Shelf
attribute [local go_sem] z0e z0b z0c z0f z0m z0k z0h z0d z0g
theorem fun_bad (B:ByteArray) (ao:Option Addr) (n cap:Nat) (w:World)  (A:z0n 60 #[.slice ao n cap] w (.bool false)) :
  Calls Tryz.prog 58 #[.string B,.slice ao n cap] w fun e w'=>e=.returned (.tuple #[va 0 0 0 ⟨#[]⟩,.int .i64 1])∧Below w.heap.size w w':=by
 obtain ⟨w0,hw0,bxr,Bw⟩:=z2r w
 go_enter Tryz.func58,Tryz.ntmps58
 go_upto_region 1 with fail
 rw [← hw0]
 clear hw0
 have B0:Below w0.heap.size w0 w0:=Below.refl _ _
 go_wp2_with fail
 refine (A _ (z0a Bw B0)).mono ?_
 rintro e w1 ⟨rfl,c⟩
 have B1:=z0a B0 c
 clear c
 have br:=bxr.later B1
 obtain ⟨r0,r1,r2,r3⟩:=br.at4
 dsimp only [nul] at r0 r1 r2 r3
 simp only [Nat.zero_add] at r1 r2 r3
 have f0:=br.free 0
 have f1:=br.free 1
 have f2:=br.free 2
 have f3:=br.free 3
 have lt1:=br.lt
 have Be:=z0a Bw B1
 go_wp2
 refine bodyPost_ret_by (v:=.tuple #[va 0 0 0 ⟨#[]⟩,.int .i64 1]) ?_ rfl ⟨rfl,?_⟩
 ·simp [results,Tryz.results58,go_sem,r0,r1,r2,r3]
 ·exact (Be.setCell (p:=⟨w.heap.size,0,none⟩) (Nat.le_refl _) (.int .i64 0) |>.setCell (p:=⟨w.heap.size,1,none⟩) (Nat.le_refl _) (.int .i64 0) |>.setCell (p:=⟨w.heap.size,2,none⟩) (Nat.le_refl _) (.int .i64 0) |>.setCell (p:=⟨w.heap.size,3,none⟩) (Nat.le_refl _) (.string ⟨#[]⟩))
theorem fun_name (B:ByteArray) (ao:Option Addr) (n cap:Nat) (w:World)  (A:z0n 60 #[.slice ao n cap] w (.bool true)) (I:z0n 109 #[.string B,.int .i64 (n:Int)] w (.bool false)) :
  Calls Tryz.prog 58 #[.string B,.slice ao n cap] w fun e w'=>e=.returned (.tuple #[va 0 0 0 ⟨#[]⟩,.int .i64 34])∧Below w.heap.size w w':=by
 obtain ⟨w0,hw0,bxr,Bw⟩:=z2r w
 go_enter Tryz.func58,Tryz.ntmps58
 go_upto_region 1 with fail
 rw [← hw0]
 clear hw0
 have B0:Below w0.heap.size w0 w0:=Below.refl _ _
 go_wp2_with fail
 refine (A _ (z0a Bw B0)).mono ?_
 rintro e w1 ⟨rfl,c⟩
 have B1:=z0a B0 c
 clear c
 go_wp2_with fail
 refine (I _ (z0a Bw B1)).mono ?_
 rintro e w2 ⟨rfl,c⟩
 have B2:=z0a B1 c
 clear c
 have br:=bxr.later B2
 obtain ⟨r0,r1,r2,r3⟩:=br.at4
 dsimp only [nul] at r0 r1 r2 r3
 simp only [Nat.zero_add] at r1 r2 r3
 have f0:=br.free 0
 have f1:=br.free 1
 have f2:=br.free 2
 have f3:=br.free 3
 have lt1:=br.lt
 have Be:=z0a Bw B2
 go_wp2
 refine bodyPost_ret_by (v:=.tuple #[va 0 0 0 ⟨#[]⟩,.int .i64 34]) ?_ rfl ⟨rfl,?_⟩
 ·simp [results,Tryz.results58,go_sem,r0,r1,r2,r3]
 ·exact (Be.setCell (p:=⟨w.heap.size,0,none⟩) (Nat.le_refl _) (.int .i64 0) |>.setCell (p:=⟨w.heap.size,1,none⟩) (Nat.le_refl _) (.int .i64 0) |>.setCell (p:=⟨w.heap.size,2,none⟩) (Nat.le_refl _) (.int .i64 0) |>.setCell (p:=⟨w.heap.size,3,none⟩) (Nat.le_refl _) (.string ⟨#[]⟩))
theorem fun_coal (ao:Option Addr) (n cap:Nat) (w:World) (rk rn rm:Int) (rb:ByteArray) (A:z0n 60 #[.slice ao n cap] w (.bool true)) (I:z0n 109 #[.string ⟨#[99,111,97,108,101,115,99,101]⟩,.int .i64 (n:Int)] w (.bool true)) (F:z0n 110 #[.slice ao n cap] w (va rk rn rm rb)) :
  Calls Tryz.prog 58 #[.string ⟨#[99,111,97,108,101,115,99,101]⟩,.slice ao n cap] w fun e w'=>e=.returned (.tuple #[va rk rn rm rb,.int .i64 0])∧Below w.heap.size w w':=by
 obtain ⟨w0,hw0,bxr,Bw⟩:=z2r w
 go_enter Tryz.func58,Tryz.ntmps58
 go_upto_region 1 with fail
 rw [← hw0]
 clear hw0
 have B0:Below w0.heap.size w0 w0:=Below.refl _ _
 go_wp2_with fail
 refine (A _ (z0a Bw B0)).mono ?_
 rintro e w1 ⟨rfl,c⟩
 have B1:=z0a B0 c
 clear c
 go_wp2_with fail
 refine (I _ (z0a Bw B1)).mono ?_
 rintro e w2 ⟨rfl,c⟩
 have B2:=z0a B1 c
 clear c
 go_wp2_with fail
 refine (F _ (z0a Bw B2)).mono ?_
 rintro e w3 ⟨rfl,c⟩
 have B3:=z0a B2 c
 clear c
 have br:=bxr.later B3
 obtain ⟨r0,r1,r2,r3⟩:=br.at4
 dsimp only [nul] at r0 r1 r2 r3
 simp only [Nat.zero_add] at r1 r2 r3
 have f0:=br.free 0
 have f1:=br.free 1
 have f2:=br.free 2
 have f3:=br.free 3
 have lt1:=br.lt
 have Be:=z0a Bw B3
 go_wp2
 refine bodyPost_ret_by (v:=.tuple #[va rk rn rm rb,.int .i64 0]) ?_ rfl ⟨rfl,?_⟩
 ·simp [results,Tryz.results58,go_sem,r0,r1,r2,r3]
 ·exact (Be.setCell (p:=⟨w.heap.size,0,none⟩) (Nat.le_refl _) (.int .i64 rk) |>.setCell (p:=⟨w.heap.size,1,none⟩) (Nat.le_refl _) (.int .i64 rn) |>.setCell (p:=⟨w.heap.size,2,none⟩) (Nat.le_refl _) (.int .i64 rm) |>.setCell (p:=⟨w.heap.size,3,none⟩) (Nat.le_refl _) (.string rb))
theorem fun_null (B:ByteArray) (ao:Option Addr) (n cap:Nat) (w:World) (e7:(B.toList==[99,111,97,108,101,115,99,101])=false) (A:z0n 60 #[.slice ao n cap] w (.bool true)) (I:z0n 109 #[.string B,.int .i64 (n:Int)] w (.bool true)) (C:z0n 111 #[.slice ao n cap,va 0 0 0 ⟨#[]⟩] w (.bool true)) :
  Calls Tryz.prog 58 #[.string B,.slice ao n cap] w fun e w'=>e=.returned (.tuple #[va 0 0 0 ⟨#[]⟩,.int .i64 0])∧Below w.heap.size w w':=by
 obtain ⟨w0,hw0,bxr,Bw⟩:=z2r w
 go_enter Tryz.func58,Tryz.ntmps58
 go_upto_region 1 with fail
 rw [← hw0]
 clear hw0
 have B0:Below w0.heap.size w0 w0:=Below.refl _ _
 go_wp2_with fail
 refine (A _ (z0a Bw B0)).mono ?_
 rintro e w1 ⟨rfl,c⟩
 have B1:=z0a B0 c
 clear c
 go_wp2_with fail
 refine (I _ (z0a Bw B1)).mono ?_
 rintro e w2 ⟨rfl,c⟩
 have B2:=z0a B1 c
 clear c
 go_wp2_with fail
 refine (C _ (z0a Bw B2)).mono ?_
 rintro e w3 ⟨rfl,c⟩
 have B3:=z0a B2 c
 clear c
 have br:=bxr.later B3
 obtain ⟨r0,r1,r2,r3⟩:=br.at4
 dsimp only [nul] at r0 r1 r2 r3
 simp only [Nat.zero_add] at r1 r2 r3
 have f0:=br.free 0
 have f1:=br.free 1
 have f2:=br.free 2
 have f3:=br.free 3
 have lt1:=br.lt
 have Be:=z0a Bw B3
 go_wp2
 refine bodyPost_ret_by (v:=.tuple #[va 0 0 0 ⟨#[]⟩,.int .i64 0]) ?_ rfl ⟨rfl,?_⟩
 ·simp [results,Tryz.results58,go_sem,r0,r1,r2,r3]
 ·exact (Be.setCell (p:=⟨w.heap.size,0,none⟩) (Nat.le_refl _) (.int .i64 0) |>.setCell (p:=⟨w.heap.size,1,none⟩) (Nat.le_refl _) (.int .i64 0) |>.setCell (p:=⟨w.heap.size,2,none⟩) (Nat.le_refl _) (.int .i64 0) |>.setCell (p:=⟨w.heap.size,3,none⟩) (Nat.le_refl _) (.string ⟨#[]⟩))
theorem fun_call (B:ByteArray) (ao:Option Addr) (n cap:Nat) (w:World) (rk rn rm re:Int) (rb:ByteArray) (e7:(B.toList==[99,111,97,108,101,115,99,101])=false) (A:z0n 60 #[.slice ao n cap] w (.bool true)) (I:z0n 109 #[.string B,.int .i64 (n:Int)] w (.bool true)) (C:z0n 111 #[.slice ao n cap,va 0 0 0 ⟨#[]⟩] w (.bool false)) (F:z0n 112 #[.string B,.slice ao n cap] w (.tuple #[va rk rn rm rb,.int .i64 re])) :
  Calls Tryz.prog 58 #[.string B,.slice ao n cap] w fun e w'=>e=.returned (.tuple #[va rk rn rm rb,.int .i64 re])∧Below w.heap.size w w':=by
 obtain ⟨w0,hw0,bxr,Bw⟩:=z2r w
 go_enter Tryz.func58,Tryz.ntmps58
 go_upto_region 1 with fail
 rw [← hw0]
 clear hw0
 have B0:Below w0.heap.size w0 w0:=Below.refl _ _
 go_wp2_with fail
 refine (A _ (z0a Bw B0)).mono ?_
 rintro e w1 ⟨rfl,c⟩
 have B1:=z0a B0 c
 clear c
 go_wp2_with fail
 refine (I _ (z0a Bw B1)).mono ?_
 rintro e w2 ⟨rfl,c⟩
 have B2:=z0a B1 c
 clear c
 go_wp2_with fail
 refine (C _ (z0a Bw B2)).mono ?_
 rintro e w3 ⟨rfl,c⟩
 have B3:=z0a B2 c
 clear c
 go_wp2_with fail
 refine (F _ (z0a Bw B3)).mono ?_
 rintro e w4 ⟨rfl,c⟩
 have B4:=z0a B3 c
 clear c
 have br:=bxr.later B4
 obtain ⟨r0,r1,r2,r3⟩:=br.at4
 dsimp only [nul] at r0 r1 r2 r3
 simp only [Nat.zero_add] at r1 r2 r3
 have f0:=br.free 0
 have f1:=br.free 1
 have f2:=br.free 2
 have f3:=br.free 3
 have lt1:=br.lt
 have Be:=z0a Bw B4
 go_wp2
 refine bodyPost_ret_by (v:=.tuple #[va rk rn rm rb,.int .i64 re]) ?_ rfl ⟨rfl,?_⟩
 ·simp [results,Tryz.results58,go_sem,r0,r1,r2,r3]
 ·exact (Be.setCell (p:=⟨w.heap.size,0,none⟩) (Nat.le_refl _) (.int .i64 rk) |>.setCell (p:=⟨w.heap.size,1,none⟩) (Nat.le_refl _) (.int .i64 rn) |>.setCell (p:=⟨w.heap.size,2,none⟩) (Nat.le_refl _) (.int .i64 rm) |>.setCell (p:=⟨w.heap.size,3,none⟩) (Nat.le_refl _) (.string rb))
def absR (a:Va):Va × Int:=if a.n<0 then negR a else (a,0)
def cal1 (nm:List UInt8) (a:Va):Va × Int :=
 if nm=z5n then (if a.k=3 then (vI (a.b.length:Int),0) else (nul,31))
 else if nm=sAbs then (if isn a then absR a else (nul,31))
 else if nm=sNorm then (if a.k=5 then (vI (Ga.nrm a.n a.m),0) else (nul,31))
 else if nm=sPx then (if a.k=5 then (vI a.n,0) else (nul,31))
 else (if a.k=5 then (vI a.m,0) else (nul,31))
def cal2 (nm:List UInt8) (a b:Va):Va × Int :=
 if nm=z6h then (if a.k=1∧b.k=1 then ptAtR a.n b.n else (nul,31))
 else (if isn a∧b.k=1 then rndR a.n a.m b.n else (nul,31))
def calR (nm:List UInt8):List Va→Va × Int
 | [a]=>cal1 nm a
 | [a,b]=>cal2 nm a b
 | _=>(nul,31)
def funR (nm:List UInt8) (l:List Va):Va × Int :=
 if l.all vr=false then (nul,1) else if isF nm l.length=false then (nul,34) else if nm=z4s then (z4t l,0) else if l.any zq=true then (nul,0) else calR nm l
end Go.Proofs.YtibbenhplmmmiaaGreatDoor

namespace Go.Proofs.YtibbenhplmmmiaaGreatDoor
open Go.RowKit Go.Shelf
theorem two_of {l:List Va} (h:l.length=2):∃ a b,l=[a,b]:=by
 match l,h with
 | [a,b],_=>exact ⟨a,b,rfl⟩
theorem z6z (l:List UInt8):(⟨l.toArray⟩:ByteArray).toList=l:=by rw [Lib.toList_data]
theorem cast_beq (n k:Nat):((n:Int)==(k:Int))=(n==k):=by
 by_cases h:n=k
 ·subst h;simp
 ·rw [beq_eq_false_iff_ne.2 h,beq_eq_false_iff_ne]
  omega
theorem isf_any (nm:List UInt8) (n:Nat) (w:World):Calls Tryz.prog 109 #[.string ⟨nm.toArray⟩,.int .i64 (n:Int)] w fun e w'=>e=.returned (.bool (isF nm n))∧w=w':=by
 have c1:=cast_beq n 1
 have c2:=cast_beq n 2
 unfold isF
 by_cases h1:nm=z5n∨nm=sAbs∨nm=sNorm∨nm=sPx∨nm=sPy
 ·rw [if_pos h1,← c1]
  rcases h1 with rfl|rfl|rfl|rfl|rfl
  ·exact isf_length _ w
  ·exact isf_abs _ w
  ·exact isf_norm _ w
  ·exact isf_px _ w
  ·exact isf_py _ w
 rw [if_neg h1]
 by_cases h2:nm=z6h∨nm=z5a
 ·rw [if_pos h2,← c2]
  rcases h2 with rfl|rfl
  ·exact isf_point _ w
  ·exact isf_round _ w
 rw [if_neg h2]
 by_cases h3:nm=z4s
 ·rw [if_pos h3]
  subst h3
  by_cases l1:1≤n
  ·by_cases l4:n≤4
   ·rw [decide_eq_true ⟨l1,l4⟩]
    exact isf_coal_ok _ w (by omega) (by omega)
   ·rw [decide_eq_false (fun h=>l4 h.2)]
    exact isf_coal_hi _ w (by omega) (by omega)
  ·rw [decide_eq_false (fun h=>l1 h.1)]
   exact isf_coal_lo _ w (by omega)
 rw [if_neg h3]
 have f:∀ s:List UInt8,nm≠s→((⟨nm.toArray⟩:ByteArray).toList==s)=false:=fun s h=>by rw [z6z];exact beq_eq_false_iff_ne.2 h
 exact isf_other ⟨nm.toArray⟩ _ w (f _ fun h=>h1 (.inl h)) (f _ fun h=>h1 (.inr (.inl h))) (f _ fun h=>h1 (.inr (.inr (.inl h)))) (f _ fun h=>h1 (.inr (.inr (.inr (.inl h))))) (f _ fun h=>h1 (.inr (.inr (.inr (.inr h))))) (f _ fun h=>h2 (.inl h)) (f _ fun h=>h2 (.inr h)) (f _ h3)
theorem numc_scaled (x y p:Int) (hp:0<p):numc (x*p) (y*p)<0↔x<y:=by
 have h:x*p<y*p↔x<y:=⟨fun h=>Int.lt_of_mul_lt_mul_right h (Int.le_of_lt hp),fun h=>Int.mul_lt_mul_of_pos_right h hp⟩
 unfold numc
 by_cases hxy:x<y
 ·rw [if_pos (h.2 hxy)];simp [hxy]
 ·rw [if_neg (fun h'=>hxy (h.1 h'))]
  split <;> simp <;> omega
theorem ten_pos (m:Int):(0:Int)<10^(6 - m).toNat:=by
 have:(0:Int)<10:=by decide
 exact Int.pow_pos this
theorem qsize_any (a:Va) (w:World) (hT:Tabs w) (hP:Pw w) (hr:vr a=true) (hn:isn a) (ia:vin a):Calls Tryz.prog 178 #[vv a] w fun e w'=>e=.returned (rs (absR a))∧Below w.heap.size w w':=by
 have U:z0n 115 #[.int .i64 3,vv a] w (rs (negR a)):=fun W h=>by
  have:=qun_any 3 a W (hT.later h) (hP.below h) ia
  rw [show unR 3 a=negR a by unfold unR;rw [if_neg (by simp [hr]),if_neg (by decide),if_neg (by decide)]] at this
  exact this
 have hv:=(z2f a).1 hr
 have hm:=z4u hn hr
 obtain ⟨k,n,m,b⟩:=a
 simp only [isn] at hn
 simp only [vok] at hv
 simp only at hm
 obtain ⟨⟨n0,n1⟩,m0⟩:=id ia
 simp only at n0 n1 m0
 have hb:b=[]:=by rcases hv with h|h|h|h|h|h <;> first|omega|exact h.2.2|exact h.2.2.2
 subst hb
 have key:∀ (z:Int),z=-n→fits z=true→∀ k':Int,k'=k→negR ⟨k,n,m,[]⟩=(⟨k',z,m,[]⟩,0) →
   Calls Tryz.prog 178 #[vv ⟨k,n,m,[]⟩] w fun e w'=>e=.returned (rs (absR ⟨k,n,m,[]⟩))∧Below w.heap.size w w':=by
  intro z hz hf k' hk' hg
  have hzi:-9223372036854775808≤z∧z≤9223372036854775807:=by simpa [fits] using hf
  rw [hg] at U
  refine qsize_walk k n m [] k' z m 0 [] (numc (at6 ⟨k,n,m,[]⟩) (at6 ⟨k',z,m,[]⟩)) w U (fun _ W h=>dcmp_six ⟨k,n,m,[]⟩ ⟨k',z,m,[]⟩ W (hP.below h) hm hm ia ⟨hzi,m0⟩) _ ?_
  show absR _=_
  rw [if_pos rfl]
  unfold absR
  rw [hg]
  have hx:numc (at6 ⟨k,n,m,[]⟩) (at6 ⟨k',z,m,[]⟩)<0↔n<0:=by
   show numc (n*10^(6 - m).toNat) (z*10^(6 - m).toNat)<0↔_
   rw [numc_scaled _ _ _ (ten_pos m)]
   omega
  by_cases h:n<0
  ·rw [if_pos (hx.2 h)]
   simp [h]
  ·rw [if_neg (fun h'=>h (hx.1 h'))]
   simp [h]
 by_cases hf:fits (-n)=true
 ·have h0:(0:Int) - n=-n:=by omega
  rcases hn with rfl|rfl
  ·have hm0:m=0:=by omega
   subst hm0
   refine key (-n) rfl hf 1 rfl ?_
   simp [negR,z0v,nz,nErr,hf,vI]
  ·refine key (-n) rfl hf 2 rfl ?_
   simp [negR,decR,z2a,nz,nErr,fs,hf,vD]
 ·have hneg:n<0:=by
   simp only [fits,decide_eq_true_eq] at hf
   omega
  have hg:negR ⟨k,n,m,[]⟩=(nul,32):=by
   rcases hn with rfl|rfl
   ·simp [negR,z0v,nErr,hf]
   ·simp [negR,decR,z2a,nErr,hf]
  rw [hg] at U
  refine qsize_walk k n m [] 0 0 0 32 [] 0 w U (fun h=>absurd h (by decide)) _ ?_
  show absR _=_
  unfold absR
  rw [hg]
  simp [hneg]
theorem cal1_any (nm:List UInt8) (bl off cap:Nat) (a:Va) (w:World) (hT:Tabs w) (hP:Pw w) (h4:At4 w bl off a) (hr:vr a=true) (ia:vin a) (hn:nm=z5n∨nm=sAbs∨nm=sNorm∨nm=sPx∨nm=sPy) :
  Calls Tryz.prog 112 #[.string ⟨nm.toArray⟩,.slice (some ⟨bl,off,none⟩) 1 cap] w fun e w'=>e=.returned (rs (cal1 nm a))∧Below w.heap.size w w':=by
 obtain ⟨c0,c1,c2,c3⟩:=id h4
 have hg:=h4.lt
 have hv:=(z2f a).1 hr
 obtain ⟨ak,an,am,ab⟩:=a
 simp only at c0 c1 c2 c3
 have no:∀ k:Int,ak≠k→(ak==k)=false:=fun k h=>beq_eq_false_iff_ne.2 h
 unfold cal1
 rcases hn with rfl|rfl|rfl|rfl|rfl
 ·rw [if_pos rfl]
  by_cases h:ak=3
  ·subst h
   rw [if_pos rfl]
   exact z6e _ bl off cap an am ab w hg c0 c1 c2 c3 (.length rfl)
  ·rw [if_neg h]
   exact z6e ak bl off cap an am ab w hg c0 c1 c2 c3 (.length_no (no 3 h))
 ·rw [if_neg (by decide),if_pos rfl]
  by_cases h:isn ⟨ak,an,am,ab⟩
  ·rw [if_pos h]
   have S:z0n 178 #[va ak an am ⟨ab.toArray⟩] w (rs (absR ⟨ak,an,am,ab⟩)):=fun W hW=>qsize_any ⟨ak,an,am,ab⟩ W (hT.later hW) (hP.below hW) hr h ia
   rcases h with h|h
   ·simp only at h
    subst h
    exact z6e _ bl off cap an am ab w hg c0 c1 c2 c3 (.abs1 rfl _ _ _ _ _ S)
   ·simp only at h
    subst h
    exact z6e _ bl off cap an am ab w hg c0 c1 c2 c3 (.abs2 rfl _ _ _ _ _ S)
  ·rw [if_neg h]
   simp only [isn,not_or] at h
   exact z6e ak bl off cap an am ab w hg c0 c1 c2 c3 (.abs_no (no 1 h.1) (no 2 h.2))
 ·rw [if_neg (by decide),if_neg (by decide),if_pos rfl]
  by_cases h:ak=5
  ·subst h
   rw [if_pos rfl]
   exact z6e _ bl off cap an am ab w hg c0 c1 c2 c3 (.norm rfl _ (fun W=>Ga.norm_any an am W))
  ·rw [if_neg h]
   exact z6e ak bl off cap an am ab w hg c0 c1 c2 c3 (.norm_no (no 5 h))
 ·rw [if_neg (by decide),if_neg (by decide),if_neg (by decide),if_pos rfl]
  by_cases h:ak=5
  ·subst h
   rw [if_pos rfl]
   exact z6e _ bl off cap an am ab w hg c0 c1 c2 c3 (.px rfl)
  ·rw [if_neg h]
   exact z6e ak bl off cap an am ab w hg c0 c1 c2 c3 (.px_no (no 5 h))
 ·rw [if_neg (by decide),if_neg (by decide),if_neg (by decide),if_neg (by decide)]
  by_cases h:ak=5
  ·subst h
   rw [if_pos rfl]
   exact z6e _ bl off cap an am ab w hg c0 c1 c2 c3 (.py rfl)
  ·rw [if_neg h]
   exact z6e ak bl off cap an am ab w hg c0 c1 c2 c3 (.py_no (no 5 h))
theorem cal2_any (nm:List UInt8) (bl off cap:Nat) (a b:Va) (w:World) (hP:Pw w) (h4:At4 w bl off a) (g4:At4 w bl (off+4) b) (ia:vin a) (hn:nm=z6h∨nm=z5a) :
  Calls Tryz.prog 112 #[.string ⟨nm.toArray⟩,.slice (some ⟨bl,off,none⟩) 2 cap] w fun e w'=>e=.returned (rs (cal2 nm a b))∧Below w.heap.size w w':=by
 obtain ⟨c0,c1,c2,c3⟩:=id h4
 obtain ⟨d0,d1,d2,d3⟩:=id g4
 have hg:=h4.lt
 obtain ⟨⟨n0,n1⟩,-⟩:=ia
 obtain ⟨ak,an,am,ab⟩:=a
 obtain ⟨bk,bn,bm,bb⟩:=b
 simp only at c0 c1 c2 c3 d0 d1 d2 d3 n0 n1
 have no:∀ x k:Int,x≠k→(x==k)=false:=fun x k h=>beq_eq_false_iff_ne.2 h
 unfold cal2
 rcases hn with rfl|rfl
 ·rw [if_pos rfl]
  by_cases h:ak=1
  ·subst h
   by_cases h':bk=1
   ·subst h'
    rw [if_pos ⟨rfl,rfl⟩]
    exact z9h _ _ bl off cap an am ab bn bm bb w hg c0 c1 c2 c3 d0 d1 d2 d3 (.point rfl rfl)
   ·rw [if_neg (fun h=>h' h.2)]
    exact z9h _ bk bl off cap an am ab bn bm bb w hg c0 c1 c2 c3 d0 d1 d2 d3 (.point_noB rfl (no _ 1 h'))
  ·rw [if_neg (fun h'=>h h'.1)]
   exact z9h ak bk bl off cap an am ab bn bm bb w hg c0 c1 c2 c3 d0 d1 d2 d3 (.point_noA (no _ 1 h))
 ·rw [if_neg (by decide)]
  have R:∀ W,Below w.heap.size w W→Calls Tryz.prog 181 #[dv an am,.int .i64 bn] W fun e w'=>e=.returned (rs (rndR an am bn))∧Grew W w':=fun W h=>qrounded_any an am bn W (hP.below h) n0 n1
  by_cases h:ak=1
  ·subst h
   by_cases h':bk=1
   ·subst h'
    rw [if_pos ⟨show isn _ from Or.inl rfl,rfl⟩]
    exact z9h _ _ bl off cap an am ab bn bm bb w hg c0 c1 c2 c3 d0 d1 d2 d3 (.round1 rfl rfl _ R)
   ·rw [if_neg (fun h=>h' h.2)]
    exact z9h _ bk bl off cap an am ab bn bm bb w hg c0 c1 c2 c3 d0 d1 d2 d3 (.round_noB1 rfl (no _ 1 h'))
  ·by_cases h2:ak=2
   ·subst h2
    by_cases h':bk=1
    ·subst h'
     rw [if_pos ⟨show isn _ from Or.inr rfl,rfl⟩]
     exact z9h _ _ bl off cap an am ab bn bm bb w hg c0 c1 c2 c3 d0 d1 d2 d3 (.round2 rfl rfl _ R)
    ·rw [if_neg (fun h=>h' h.2)]
     exact z9h _ bk bl off cap an am ab bn bm bb w hg c0 c1 c2 c3 d0 d1 d2 d3 (.round_noB2 rfl (no _ 1 h'))
   ·rw [if_neg (fun h'=>by have g:ak=1∨ak=2:=h'.1;omega)]
    exact z9h ak bk bl off cap an am ab bn bm bb w hg c0 c1 c2 c3 d0 d1 d2 d3 (.round_noA (no _ 1 h) (no _ 2 h2))
theorem qfunction_any (nm:List UInt8) (ao:Option Addr) (cap:Nat) (l:List Va) (w:World) (hT:Tabs w) (hP:Pw w) (hv:Vs w ao l) (hl:l.length≤140737488351232) (hi:∀ x∈l,vin x) :
  Calls Tryz.prog 58 #[.string ⟨nm.toArray⟩,.slice ao l.length cap] w fun e w'=>e=.returned (rs (funR nm l))∧Below w.heap.size w w':=by
 have A:z0n 60 #[.slice ao l.length cap] w (.bool (l.all vr)):=fun W h=>z9v ao cap l W (hT.later h) (hv.later h) (by omega)
 have I:z0n 109 #[.string ⟨nm.toArray⟩,.int .i64 (l.length:Int)] w (.bool (isF nm l.length)):=fun W _=>(isf_any nm l.length W).mono fun _ _ h=>⟨h.1,h.2▸Below.refl _ _⟩
 have C:z0n 111 #[.slice ao l.length cap,va 0 0 0 ⟨#[]⟩] w (.bool (l.any zq)):=fun W h=>qcont_any ao cap l W (hv.later h) hl
 unfold funR
 cases ha:l.all vr
 ·rw [if_pos rfl]
  rw [ha] at A
  exact fun_bad _ ao _ cap w A
 rw [if_neg (by simp)]
 rw [ha] at A
 cases hf:isF nm l.length
 ·rw [if_pos rfl]
  rw [hf] at I
  exact fun_name _ ao _ cap w A I
 rw [if_neg (by simp)]
 rw [hf] at I
 by_cases hc:nm=z4s
 ·subst hc
  rw [if_pos rfl]
  have hb:∀ x∈l,x.b.length≤140737488351232:=fun x hx=>by
   have hv:=(z2f x).1 (List.all_eq_true.1 ha x hx)
   simp only [vok] at hv
   rcases hv with h|h|h|h|h|h
   ·rw [h.2.2.2];exact Nat.zero_le _
   ·rw [h.2.2];exact Nat.zero_le _
   ·rw [h.2.2.2];exact Nat.zero_le _
   ·omega
   ·rw [h.2.2.2];exact Nat.zero_le _
   ·rw [h.2.2.2.2.2];exact Nat.zero_le _
  exact fun_coal ao _ cap w _ _ _ _ A I (fun W h=>qfirst_any ao cap l W (hv.later h) (by omega) hb)
 rw [if_neg hc]
 have e7:((⟨nm.toArray⟩:ByteArray).toList==[99,111,97,108,101,115,99,101])=false:=by rw [z6z];exact beq_eq_false_iff_ne.2 hc
 cases hz:l.any zq
 ·rw [if_neg (by simp)]
  rw [hz] at C
  refine fun_call _ ao _ cap w _ _ _ _ _ e7 A I C (fun W h=>?_)
  have hv':=hv.later h
  have hall:∀ x∈l,vr x=true:=List.all_eq_true.1 ha
  by_cases h1:nm=z5n∨nm=sAbs∨nm=sNorm∨nm=sPx∨nm=sPy
  ·have hn:l.length=1:=by unfold isF at hf;rw [if_pos h1] at hf;simpa using hf
   clear A I C hl
   obtain ⟨a,rfl⟩:=List.length_eq_one_iff.1 hn
   ·obtain ⟨bl,off,rfl,hc⟩:=hv' (by simp)
    have h4:=hc 0 (by simp)
    simp only [Nat.zero_mul,Nat.add_zero] at h4
    exact cal1_any nm bl off cap a W (hT.later h) (hP.below h) h4 (hall a (by simp)) (hi a (by simp)) h1
  ·have h2:nm=z6h∨nm=z5a:=by
    unfold isF at hf
    rw [if_neg h1] at hf
    by_cases h2:nm=z6h∨nm=z5a
    ·exact h2
    ·rw [if_neg h2,if_neg hc] at hf
     cases hf
   have hn:l.length=2:=by unfold isF at hf;rw [if_neg h1,if_pos h2] at hf;simpa using hf
   clear A I C hl
   obtain ⟨a,b,rfl⟩:=two_of hn
   ·obtain ⟨bl,off,rfl,hc⟩:=hv' (by simp)
    have h4:=hc 0 (by simp)
    have g4:=hc 1 (by simp)
    simp only [Nat.zero_mul,Nat.add_zero,Nat.one_mul] at h4 g4
    exact cal2_any nm bl off cap a b W (hP.below h) h4 g4 (hi a (by simp)) h2
 ·rw [if_pos rfl]
  rw [hz] at C
  exact fun_null _ ao _ cap w e7 A I C
end Go.Proofs.YtibbenhplmmmiaaGreatDoor

namespace Go.Proofs.YtibbenhplmmmiaaGreatDoor
open Go.RowKit Go.Shelf
attribute [local go_sem] z0e z0b z0c z0f z0m z0k z0h z0d z0g
theorem z0t (k n m:Int) (b:ByteArray) (w:World):Calls Tryz.prog 121 #[va k n m b] w fun e w'=>e=.returned (.bool (k==1 || k==2))∧Grew w w':=by
 by_cases h:k=1
 ·subst h
  go_enter Tryz.func121,Tryz.ntmps121
  go_wp2
  all_goals go_ret
  all_goals exact ⟨rfl,gA⟩
 ·have h':(k==1)=false:=by simpa using h
  rw [h',Bool.false_or]
  go_enter Tryz.func121,Tryz.ntmps121
  go_wp2
  all_goals go_ret
  all_goals exact ⟨rfl,gA⟩
theorem z3z (k n m:Int) (b:ByteArray) (w:World):Calls Tryz.prog 127 #[va k n m b] w fun e w'=>e=.returned (dv n m)∧Grew w w':=by
 go_enter Tryz.func127,Tryz.ntmps127
 go_wp2
 refine bodyPost_ret_by (v:=dv n m) ?_ rfl ⟨rfl,?_⟩
 ·simp [results,Tryz.results127,go_sem]
 ·exact gA
theorem z7f (k n m:Int) (b:ByteArray) (w:World):Calls Tryz.prog 123 #[va k n m b] w fun e w'=>e=.returned (dv n m)∧Grew w w':=by
 go_enter Tryz.func123,Tryz.ntmps123
 go_wp2
 refine bodyPost_ret_by (v:=dv n m) ?_ rfl ⟨rfl,?_⟩
 ·simp [results,Tryz.results123,go_sem]
 ·exact gA
theorem z4m (n x:Int) (w:World):Calls Tryz.prog 120 #[.int .i64 n,.int .i64 x] w fun e w'=>e=.returned (rs (z0v n x))∧Grew w w':=by
 unfold z0v
 by_cases h:x=0
 ·subst h
  rw [if_pos rfl]
  go_enter Tryz.func120,Tryz.ntmps120
  go_wp2
  refine bodyPost_ret_by (v:=rs (vI n,0)) ?_ rfl ⟨rfl,?_⟩
  ·simp [results,Tryz.results120,go_sem,vI]
  ·exact gA
 ·rw [if_neg h]
  have h':(x==0)=false:=by simpa using h
  go_enter Tryz.func120,Tryz.ntmps120
  go_wp2
  refine bodyPost_ret_by (v:=rs (nul,x)) ?_ rfl ⟨rfl,?_⟩
  ·simp [results,Tryz.results120,go_sem,nul]
  ·exact gA
theorem z3e (u s x:Int) (w:World):Calls Tryz.prog 125 #[dv u s,.int .i64 x] w fun e w'=>e=.returned (rs (z2a u s x))∧Grew w w':=by
 unfold z2a
 by_cases h:x=0
 ·subst h
  rw [if_pos rfl]
  go_enter Tryz.func125,Tryz.ntmps125
  go_wp2
  refine bodyPost_ret_by (v:=rs (vD u s,0)) ?_ rfl ⟨rfl,?_⟩
  ·simp [results,Tryz.results125,go_sem,vD]
  ·exact gA
 ·rw [if_neg h]
  have h':(x==0)=false:=by simpa using h
  go_enter Tryz.func125,Tryz.ntmps125
  go_wp2
  refine bodyPost_ret_by (v:=rs (nul,x)) ?_ rfl ⟨rfl,?_⟩
  ·simp [results,Tryz.results125,go_sem,nul]
  ·exact gA
theorem z2c (u s x:Int) (w:World):Calls Tryz.prog 124 #[dv u s,.int .i64 x] w fun e w'=>e=.returned (rs (z0u u s x))∧Grew w w':=by
 unfold z0u
 by_cases h:x=0
 ·subst h
  rw [if_pos rfl]
  go_enter Tryz.func124,Tryz.ntmps124
  go_wp2
  refine bodyPost_ret_by (v:=rs (vP u s,0)) ?_ rfl ⟨rfl,?_⟩
  ·simp [results,Tryz.results124,go_sem,vP]
  ·exact gA
 ·rw [if_neg h]
  have h':(x==0)=false:=by simpa using h
  go_enter Tryz.func124,Tryz.ntmps124
  go_wp2
  refine bodyPost_ret_by (v:=rs (nul,x)) ?_ rfl ⟨rfl,?_⟩
  ·simp [results,Tryz.results124,go_sem,nul]
  ·exact gA
theorem rtruth7_any (b:Bool) (w:World):Calls Tryz.prog 135 #[.bool b] w fun e w'=>e=.returned (vv (vB b))∧Grew w w':=by
 have O1:∀ W,Calls Tryz.prog 128 #[.int .i64 1] W fun e w'=>e=.returned (va 4 1 0 ⟨#[]⟩)∧Grew W w':=fun W=>rof_any 1 W
 have O0:∀ W,Calls Tryz.prog 128 #[.int .i64 0] W fun e w'=>e=.returned (va 4 0 0 ⟨#[]⟩)∧Grew W w':=fun W=>rof_any 0 W
 cases b
 ·go_enter Tryz.func135,Tryz.ntmps135
  go_wp2_with (first
   | (go_at_call_of 128 (Value.int IntKind.i64 1);refine (O1 _).mono ?_;rintro e w1 ⟨rfl,os1,n1,rfl⟩)
   | (go_at_call_of 128 (Value.int IntKind.i64 0);refine (O0 _).mono ?_;rintro e w1 ⟨rfl,os1,n1,rfl⟩))
  refine bodyPost_ret_by (v:=vv (vB false)) ?_ rfl ⟨rfl,?_⟩
  ·simp [results,Tryz.results135,go_sem,vB]
  ·exact gA
 ·go_enter Tryz.func135,Tryz.ntmps135
  go_wp2_with (first
   | (go_at_call_of 128 (Value.int IntKind.i64 1);refine (O1 _).mono ?_;rintro e w1 ⟨rfl,os1,n1,rfl⟩)
   | (go_at_call_of 128 (Value.int IntKind.i64 0);refine (O0 _).mono ?_;rintro e w1 ⟨rfl,os1,n1,rfl⟩))
  refine bodyPost_ret_by (v:=vv (vB true)) ?_ rfl ⟨rfl,?_⟩
  ·simp [results,Tryz.results135,go_sem,vB]
  ·exact gA
theorem z2k (k n m:Int) (b:ByteArray) (w:World):Calls Tryz.prog 119 #[va k n m b] w fun e w'=>e=.returned (.bool (k==0))∧Grew w w':=by
 go_enter Tryz.func119,Tryz.ntmps119
 go_wp2
 all_goals go_ret
 all_goals exact ⟨rfl,gB⟩
def hb7 (op c:Int):Bool:=if op=11 then c==0 else if op=12 then !(c==0) else if op=13 then decide (c<0) else if op=14 then decide (c≤0) else if op=15 then decide (c > 0) else decide (c ≥ 0)
theorem cmpR_hb (op c:Int) (h1:11≤op) (h2:op≤16):cmpR op c=(vB (hb7 op c),0):=by
 unfold cmpR hb7
 split
 ·rfl
 split
 ·rfl
 split
 ·rfl
 split
 ·rfl
 split
 ·rfl
 split
 ·rfl
 ·omega
theorem rholds_any (op c:Int) (w:World):Calls Tryz.prog 136 #[.int .i64 op,.int .i64 c] w fun e w'=>e=.returned (.bool (hb7 op c))∧w=w':=by
 unfold hb7
 by_cases h11:op=11
 ·subst h11
  rw [if_pos rfl]
  go_enter Tryz.func136,Tryz.ntmps136
  go_wp2
  go_ret
  exact ⟨rfl,rfl⟩
 have c11:(op==11)=false:=by simpa using h11
 by_cases h12:op=12
 ·subst h12
  rw [if_neg (by decide),if_pos rfl]
  go_enter Tryz.func136,Tryz.ntmps136
  go_wp2
  go_ret
  exact ⟨rfl,rfl⟩
 have c12:(op==12)=false:=by simpa using h12
 by_cases h13:op=13
 ·subst h13
  rw [if_neg (by decide),if_neg (by decide),if_pos rfl]
  go_enter Tryz.func136,Tryz.ntmps136
  go_wp2
  go_ret
  exact ⟨rfl,rfl⟩
 have c13:(op==13)=false:=by simpa using h13
 by_cases h14:op=14
 ·subst h14
  rw [if_neg (by decide),if_neg (by decide),if_neg (by decide),if_pos rfl]
  go_enter Tryz.func136,Tryz.ntmps136
  go_wp2
  go_ret
  exact ⟨rfl,rfl⟩
 have c14:(op==14)=false:=by simpa using h14
 by_cases h15:op=15
 ·subst h15
  rw [if_neg (by decide),if_neg (by decide),if_neg (by decide),if_neg (by decide),if_pos rfl]
  go_enter Tryz.func136,Tryz.ntmps136
  go_wp2
  go_ret
  exact ⟨rfl,rfl⟩
 have c15:(op==15)=false:=by simpa using h15
 rw [if_neg h11,if_neg h12,if_neg h13,if_neg h14,if_neg h15]
 go_enter Tryz.func136,Tryz.ntmps136
 go_wp2
 go_ret
 exact ⟨rfl,rfl⟩
end Go.Proofs.YtibbenhplmmmiaaGreatDoor

namespace Go.Proofs.YtibbenhplmmmiaaGreatDoor
open Go.RowKit Go.Shelf
attribute [local go_sem] z0e z0b z0c z0f z0m z0k z0h z0d z0g
attribute [local go_sem high] Ga.cellMA Ga.frozenMA Ga.setMA Ga.cellMAM Ga.frozenMAM Ga.setMAM Ga.cellMAA Ga.frozenMAA Ga.setMAA Ga.cellMAAM Ga.frozenMAAM Ga.setMAAM Ga.cellMAMA Ga.frozenMAMA Ga.setMAMA Ga.cellMAMAM Ga.frozenMAMAM Ga.setMAMAM Ga.cellMAMAMA Ga.frozenMAMAMA Ga.setMAMAMA Ga.cellMAMAMAM Ga.frozenMAMAMAM Ga.setMAMAMAM Ga.size_blank
theorem rpt_9 (an am bn bm x y z:Int) (w:World) (D:∀ W,Calls Tryz.prog 253 #[dv an am,dv bn bm] W fun e w'=>e=.returned (.tuple #[dv x y,.int .i64 z])∧Grew W w') :
  Calls Tryz.prog 194 #[.int .i64 9,dv an am,dv bn bm] w fun e w'=>e=.returned (rs (z0u x y z))∧Grew w w':=by
 have H:=fun n s x W=>z2c n s x W
 go_enter Tryz.func194,Tryz.ntmps194
 go_wp2_with (first
  | (go_at_call 253;refine (D _).mono ?_;rintro e w1 ⟨rfl,os1,n1,rfl⟩)
  | (go_at_call 124;refine (H _ _ _ _).mono ?_;rintro e w1 ⟨rfl,os2,n2,rfl⟩))
 refine bodyPost_ret_by (v:=rs (z0u x y z)) ?_ rfl ⟨rfl,gB⟩
 simp [results,Tryz.results194,go_sem]
theorem rpt_10 (an am bn bm x y z:Int) (w:World) (D:∀ W,Calls Tryz.prog 254 #[dv an am,dv bn bm] W fun e w'=>e=.returned (.tuple #[dv x y,.int .i64 z])∧Grew W w') :
  Calls Tryz.prog 194 #[.int .i64 10,dv an am,dv bn bm] w fun e w'=>e=.returned (rs (z0u x y z))∧Grew w w':=by
 have H:=fun n s x W=>z2c n s x W
 go_enter Tryz.func194,Tryz.ntmps194
 go_wp2_with (first
  | (go_at_call 254;refine (D _).mono ?_;rintro e w1 ⟨rfl,os1,n1,rfl⟩)
  | (go_at_call 124;refine (H _ _ _ _).mono ?_;rintro e w1 ⟨rfl,os2,n2,rfl⟩))
 refine bodyPost_ret_by (v:=rs (z0u x y z)) ?_ rfl ⟨rfl,gB⟩
 simp [results,Tryz.results194,go_sem]
theorem rpt_6 (an am bn bm x y z:Int) (w:World) (D:∀ W,Calls Tryz.prog 252 #[dv an am,dv bn bm] W fun e w'=>e=.returned (.tuple #[dv x y,.int .i64 z])∧Grew W w') :
  Calls Tryz.prog 194 #[.int .i64 6,dv an am,dv bn bm] w fun e w'=>e=.returned (rs (z0u x y z))∧Grew w w':=by
 have H:=fun n s x W=>z2c n s x W
 go_enter Tryz.func194,Tryz.ntmps194
 go_wp2_with (first
  | (go_at_call 252;refine (D _).mono ?_;rintro e w1 ⟨rfl,os1,n1,rfl⟩)
  | (go_at_call 124;refine (H _ _ _ _).mono ?_;rintro e w1 ⟨rfl,os2,n2,rfl⟩))
 refine bodyPost_ret_by (v:=rs (z0u x y z)) ?_ rfl ⟨rfl,gB⟩
 simp [results,Tryz.results194,go_sem]
theorem rpt_7 (an am bn bm x y u v z:Int) (w:World) (D:∀ W,Calls Tryz.prog 255 #[dv an am,dv bn bm] W fun e w'=>e=.returned (.tuple #[dv x y,dv u v,.int .i64 z])∧Grew W w') :
  Calls Tryz.prog 194 #[.int .i64 7,dv an am,dv bn bm] w fun e w'=>e=.returned (rs (z0u x y z))∧Grew w w':=by
 have H:=fun n s x W=>z2c n s x W
 go_enter Tryz.func194,Tryz.ntmps194
 go_wp2_with (first
  | (go_at_call 255;refine (D _).mono ?_;rintro e w1 ⟨rfl,os1,n1,rfl⟩)
  | (go_at_call 124;refine (H _ _ _ _).mono ?_;rintro e w1 ⟨rfl,os2,n2,rfl⟩))
 refine bodyPost_ret_by (v:=rs (z0u x y z)) ?_ rfl ⟨rfl,gB⟩
 simp [results,Tryz.results194,go_sem]
theorem rpt_8 (an am bn bm x y u v z:Int) (w:World) (D:∀ W,Calls Tryz.prog 255 #[dv an am,dv bn bm] W fun e w'=>e=.returned (.tuple #[dv x y,dv u v,.int .i64 z])∧Grew W w') :
  Calls Tryz.prog 194 #[.int .i64 8,dv an am,dv bn bm] w fun e w'=>e=.returned (rs (z0u u v z))∧Grew w w':=by
 have H:=fun n s x W=>z2c n s x W
 go_enter Tryz.func194,Tryz.ntmps194
 go_wp2_with (first
  | (go_at_call 255;refine (D _).mono ?_;rintro e w1 ⟨rfl,os1,n1,rfl⟩)
  | (go_at_call 124;refine (H _ _ _ _).mono ?_;rintro e w1 ⟨rfl,os2,n2,rfl⟩))
 refine bodyPost_ret_by (v:=rs (z0u u v z)) ?_ rfl ⟨rfl,gB⟩
 simp [results,Tryz.results194,go_sem]
theorem rpoints7_any (op:Int) (a b:Va) (w:World) (h1:6≤op) (h2:op≤10) (ha:Ga.ok2 a.n a.m=true) (hb:Ga.ok2 b.n b.m=true) :
  Calls Tryz.prog 194 #[.int .i64 op,dv a.n a.m,dv b.n b.m] w fun e w'=>e=.returned (rs (ptsR op a b))∧Grew w w':=by
 unfold ptsR ptR
 rcases (by omega:op=9∨op=10∨op=6∨op=7∨op=8) with rfl|rfl|rfl|rfl|rfl
 ·exact rpt_9 _ _ _ _ _ _ _ w (fun W=>Ga.radd_good a.n a.m b.n b.m W ha hb)
 ·exact rpt_10 _ _ _ _ _ _ _ w (fun W=>Ga.rsub_good a.n a.m b.n b.m W ha hb)
 ·exact rpt_6 _ _ _ _ _ _ _ w (fun W=>Ga.rmul_good a.n a.m b.n b.m W ha hb)
 ·rw [if_neg (by decide),if_neg (by decide),if_neg (by decide),if_pos rfl]
  by_cases hz:b.n=0∧b.m=0
  ·rw [if_pos hz,hz.1,hz.2]
   exact rpt_7 _ _ _ _ _ _ _ _ _ w (fun W=>Ga.rdiv_zero a.n a.m W ha)
  ·rw [if_neg hz]
   exact rpt_7 _ _ _ _ _ _ _ _ _ w (fun W=>Ga.rdiv_good a.n a.m b.n b.m W ha hb (Ga.norm_pos hz))
 ·rw [if_neg (by decide),if_neg (by decide),if_neg (by decide),if_neg (by decide),if_pos rfl]
  by_cases hz:b.n=0∧b.m=0
  ·rw [if_pos hz,hz.1,hz.2]
   exact rpt_8 _ _ _ _ _ _ _ _ _ w (fun W=>Ga.rdiv_zero a.n a.m W ha)
  ·rw [if_neg hz]
   exact rpt_8 _ _ _ _ _ _ _ _ _ w (fun W=>Ga.rdiv_good a.n a.m b.n b.m W ha hb (Ga.norm_pos hz))
end Go.Proofs.YtibbenhplmmmiaaGreatDoor

namespace Go.Proofs.YtibbenhplmmmiaaGreatDoor
open Go.RowKit Go.Shelf
attribute [local go_sem] z0e z0b z0c z0f z0m z0k z0h z0d z0g
theorem rbin_low (op:Int) (ak:Int) (bk:Int) (an am bn bm:Int) (ab bb:List UInt8) (w:World) (o1:op<6)  :
  Calls Tryz.prog 68 #[.int .i64 op,va ak an am ⟨ab.toArray⟩,va bk bn bm ⟨bb.toArray⟩] w fun e w'=>e=.returned (.tuple #[va 0 0 0 ⟨#[]⟩,.int .i64 1])∧Below w.heap.size w w':=by
 obtain ⟨w0,hw0,bxa,bxb,bxr,Bw⟩:=z0q w ⟨ak,an,am,ab⟩ ⟨bk,bn,bm,bb⟩
 dsimp only at hw0
 go_enter Tryz.func68,Tryz.ntmps68
 go_upto_region 1 with fail
 rw [← hw0]
 clear hw0
 have B0:Below w0.heap.size w0 w0:=Below.refl _ _
 obtain ⟨a0,a1,a2,a3⟩:=(bxa.later B0).at4
 obtain ⟨b0,b1,b2,b3⟩:=(bxb.later B0).at4
 dsimp only at a0 a1 a2 a3 b0 b1 b2 b3
 have br:=bxr.later B0
 obtain ⟨r0,r1,r2,r3⟩:=br.at4
 dsimp only [nul] at r0 r1 r2 r3
 simp only [Nat.zero_add] at r1 r2 r3
 have f0:=br.free 0
 have f1:=br.free 1
 have f2:=br.free 2
 have f3:=br.free 3
 have lt1:=br.lt
 have Be:=z0a Bw B0
 go_wp2
 refine bodyPost_ret_by (v:=.tuple #[va 0 0 0 ⟨#[]⟩,.int .i64 1]) ?_ rfl ⟨rfl,?_⟩
 ·simp [results,Tryz.results68,go_sem,r0,r1,r2,r3]
 ·exact (((Be.setCell (p:=⟨w.heap.size+1+1,0,none⟩) (by dsimp only;omega) _).setCell (p:=⟨w.heap.size+1+1,1,none⟩) (by dsimp only;omega) _).setCell (p:=⟨w.heap.size+1+1,2,none⟩) (by dsimp only;omega) _).setCell (p:=⟨w.heap.size+1+1,3,none⟩) (by dsimp only;omega) _
theorem rbin_badB (op:Int) (ak:Int) (bk:Int) (an am bn bm:Int) (ab bb:List UInt8) (w:World) (o1:¬ op<6) (o2:¬ op > 18) (Ra:z0n 13 #[va ak an am ⟨ab.toArray⟩] w (.bool true)) (Rb:z0n 13 #[va bk bn bm ⟨bb.toArray⟩] w (.bool false)) :
  Calls Tryz.prog 68 #[.int .i64 op,va ak an am ⟨ab.toArray⟩,va bk bn bm ⟨bb.toArray⟩] w fun e w'=>e=.returned (.tuple #[va 0 0 0 ⟨#[]⟩,.int .i64 1])∧Below w.heap.size w w':=by
 obtain ⟨w0,hw0,bxa,bxb,bxr,Bw⟩:=z0q w ⟨ak,an,am,ab⟩ ⟨bk,bn,bm,bb⟩
 dsimp only at hw0
 go_enter Tryz.func68,Tryz.ntmps68
 go_upto_region 1 with fail
 rw [← hw0]
 clear hw0
 have B0:Below w0.heap.size w0 w0:=Below.refl _ _
 obtain ⟨a0,a1,a2,a3⟩:=(bxa.later B0).at4
 obtain ⟨b0,b1,b2,b3⟩:=(bxb.later B0).at4
 dsimp only at a0 a1 a2 a3 b0 b1 b2 b3
 go_wp2_with fail
 refine (Ra _ (z0a Bw B0)).mono ?_
 rintro e w1 ⟨rfl,c⟩
 have B1:=z0a B0 c
 clear a0 a1 a2 a3 b0 b1 b2 b3 c
 obtain ⟨a0,a1,a2,a3⟩:=(bxa.later B1).at4
 obtain ⟨b0,b1,b2,b3⟩:=(bxb.later B1).at4
 dsimp only at a0 a1 a2 a3 b0 b1 b2 b3
 go_wp2_with fail
 refine (Rb _ (z0a Bw B1)).mono ?_
 rintro e w2 ⟨rfl,c⟩
 have B2:=z0a B1 c
 clear a0 a1 a2 a3 b0 b1 b2 b3 c
 obtain ⟨a0,a1,a2,a3⟩:=(bxa.later B2).at4
 obtain ⟨b0,b1,b2,b3⟩:=(bxb.later B2).at4
 dsimp only at a0 a1 a2 a3 b0 b1 b2 b3
 have br:=bxr.later B2
 obtain ⟨r0,r1,r2,r3⟩:=br.at4
 dsimp only [nul] at r0 r1 r2 r3
 simp only [Nat.zero_add] at r1 r2 r3
 have f0:=br.free 0
 have f1:=br.free 1
 have f2:=br.free 2
 have f3:=br.free 3
 have lt1:=br.lt
 have Be:=z0a Bw B2
 go_wp2
 refine bodyPost_ret_by (v:=.tuple #[va 0 0 0 ⟨#[]⟩,.int .i64 1]) ?_ rfl ⟨rfl,?_⟩
 ·simp [results,Tryz.results68,go_sem,r0,r1,r2,r3]
 ·exact (((Be.setCell (p:=⟨w.heap.size+1+1,0,none⟩) (by dsimp only;omega) _).setCell (p:=⟨w.heap.size+1+1,1,none⟩) (by dsimp only;omega) _).setCell (p:=⟨w.heap.size+1+1,2,none⟩) (by dsimp only;omega) _).setCell (p:=⟨w.heap.size+1+1,3,none⟩) (by dsimp only;omega) _
theorem rbin_ft17 (ak:Int) (bk:Int) (an am bn bm:Int) (ab bb:List UInt8) (w:World) (t u:Int) (Ra:z0n 13 #[va ak an am ⟨ab.toArray⟩] w (.bool true)) (Rb:z0n 13 #[va bk bn bm ⟨bb.toArray⟩] w (.bool true)) (Ta:z0n 71 #[va ak an am ⟨ab.toArray⟩] w (.tuple #[.int .i64 t,.bool true])) (Tb:z0n 71 #[va bk bn bm ⟨bb.toArray⟩] w (.tuple #[.int .i64 u,.bool false])) :
  Calls Tryz.prog 68 #[.int .i64 17,va ak an am ⟨ab.toArray⟩,va bk bn bm ⟨bb.toArray⟩] w fun e w'=>e=.returned (.tuple #[va 0 0 0 ⟨#[]⟩,.int .i64 31])∧Below w.heap.size w w':=by
 obtain ⟨w0,hw0,bxa,bxb,bxr,Bw⟩:=z0q w ⟨ak,an,am,ab⟩ ⟨bk,bn,bm,bb⟩
 dsimp only at hw0
 go_enter Tryz.func68,Tryz.ntmps68
 go_upto_region 1 with fail
 rw [← hw0]
 clear hw0
 have B0:Below w0.heap.size w0 w0:=Below.refl _ _
 obtain ⟨a0,a1,a2,a3⟩:=(bxa.later B0).at4
 obtain ⟨b0,b1,b2,b3⟩:=(bxb.later B0).at4
 dsimp only at a0 a1 a2 a3 b0 b1 b2 b3
 go_wp2_with fail
 refine (Ra _ (z0a Bw B0)).mono ?_
 rintro e w1 ⟨rfl,c⟩
 have B1:=z0a B0 c
 clear a0 a1 a2 a3 b0 b1 b2 b3 c
 obtain ⟨a0,a1,a2,a3⟩:=(bxa.later B1).at4
 obtain ⟨b0,b1,b2,b3⟩:=(bxb.later B1).at4
 dsimp only at a0 a1 a2 a3 b0 b1 b2 b3
 go_wp2_with fail
 refine (Rb _ (z0a Bw B1)).mono ?_
 rintro e w2 ⟨rfl,c⟩
 have B2:=z0a B1 c
 clear a0 a1 a2 a3 b0 b1 b2 b3 c
 obtain ⟨a0,a1,a2,a3⟩:=(bxa.later B2).at4
 obtain ⟨b0,b1,b2,b3⟩:=(bxb.later B2).at4
 dsimp only at a0 a1 a2 a3 b0 b1 b2 b3
 go_wp2_with fail
 refine (Ta _ (z0a Bw B2)).mono ?_
 rintro e w3 ⟨rfl,c⟩
 have B3:=z0a B2 c
 clear a0 a1 a2 a3 b0 b1 b2 b3 c
 obtain ⟨a0,a1,a2,a3⟩:=(bxa.later B3).at4
 obtain ⟨b0,b1,b2,b3⟩:=(bxb.later B3).at4
 dsimp only at a0 a1 a2 a3 b0 b1 b2 b3
 go_wp2_with fail
 refine (Tb _ (z0a Bw B3)).mono ?_
 rintro e w4 ⟨rfl,c⟩
 have B4:=z0a B3 c
 clear a0 a1 a2 a3 b0 b1 b2 b3 c
 obtain ⟨a0,a1,a2,a3⟩:=(bxa.later B4).at4
 obtain ⟨b0,b1,b2,b3⟩:=(bxb.later B4).at4
 dsimp only at a0 a1 a2 a3 b0 b1 b2 b3
 have br:=bxr.later B4
 obtain ⟨r0,r1,r2,r3⟩:=br.at4
 dsimp only [nul] at r0 r1 r2 r3
 simp only [Nat.zero_add] at r1 r2 r3
 have f0:=br.free 0
 have f1:=br.free 1
 have f2:=br.free 2
 have f3:=br.free 3
 have lt1:=br.lt
 have Be:=z0a Bw B4
 go_wp2
 refine bodyPost_ret_by (v:=.tuple #[va 0 0 0 ⟨#[]⟩,.int .i64 31]) ?_ rfl ⟨rfl,?_⟩
 ·simp [results,Tryz.results68,go_sem,r0,r1,r2,r3]
 ·exact (((Be.setCell (p:=⟨w.heap.size+1+1,0,none⟩) (by dsimp only;omega) _).setCell (p:=⟨w.heap.size+1+1,1,none⟩) (by dsimp only;omega) _).setCell (p:=⟨w.heap.size+1+1,2,none⟩) (by dsimp only;omega) _).setCell (p:=⟨w.heap.size+1+1,3,none⟩) (by dsimp only;omega) _
theorem rbin_ft18 (ak:Int) (bk:Int) (an am bn bm:Int) (ab bb:List UInt8) (w:World) (t u:Int) (Ra:z0n 13 #[va ak an am ⟨ab.toArray⟩] w (.bool true)) (Rb:z0n 13 #[va bk bn bm ⟨bb.toArray⟩] w (.bool true)) (Ta:z0n 71 #[va ak an am ⟨ab.toArray⟩] w (.tuple #[.int .i64 t,.bool true])) (Tb:z0n 71 #[va bk bn bm ⟨bb.toArray⟩] w (.tuple #[.int .i64 u,.bool false])) :
  Calls Tryz.prog 68 #[.int .i64 18,va ak an am ⟨ab.toArray⟩,va bk bn bm ⟨bb.toArray⟩] w fun e w'=>e=.returned (.tuple #[va 0 0 0 ⟨#[]⟩,.int .i64 31])∧Below w.heap.size w w':=by
 obtain ⟨w0,hw0,bxa,bxb,bxr,Bw⟩:=z0q w ⟨ak,an,am,ab⟩ ⟨bk,bn,bm,bb⟩
 dsimp only at hw0
 go_enter Tryz.func68,Tryz.ntmps68
 go_upto_region 1 with fail
 rw [← hw0]
 clear hw0
 have B0:Below w0.heap.size w0 w0:=Below.refl _ _
 obtain ⟨a0,a1,a2,a3⟩:=(bxa.later B0).at4
 obtain ⟨b0,b1,b2,b3⟩:=(bxb.later B0).at4
 dsimp only at a0 a1 a2 a3 b0 b1 b2 b3
 go_wp2_with fail
 refine (Ra _ (z0a Bw B0)).mono ?_
 rintro e w1 ⟨rfl,c⟩
 have B1:=z0a B0 c
 clear a0 a1 a2 a3 b0 b1 b2 b3 c
 obtain ⟨a0,a1,a2,a3⟩:=(bxa.later B1).at4
 obtain ⟨b0,b1,b2,b3⟩:=(bxb.later B1).at4
 dsimp only at a0 a1 a2 a3 b0 b1 b2 b3
 go_wp2_with fail
 refine (Rb _ (z0a Bw B1)).mono ?_
 rintro e w2 ⟨rfl,c⟩
 have B2:=z0a B1 c
 clear a0 a1 a2 a3 b0 b1 b2 b3 c
 obtain ⟨a0,a1,a2,a3⟩:=(bxa.later B2).at4
 obtain ⟨b0,b1,b2,b3⟩:=(bxb.later B2).at4
 dsimp only at a0 a1 a2 a3 b0 b1 b2 b3
 go_wp2_with fail
 refine (Ta _ (z0a Bw B2)).mono ?_
 rintro e w3 ⟨rfl,c⟩
 have B3:=z0a B2 c
 clear a0 a1 a2 a3 b0 b1 b2 b3 c
 obtain ⟨a0,a1,a2,a3⟩:=(bxa.later B3).at4
 obtain ⟨b0,b1,b2,b3⟩:=(bxb.later B3).at4
 dsimp only at a0 a1 a2 a3 b0 b1 b2 b3
 go_wp2_with fail
 refine (Tb _ (z0a Bw B3)).mono ?_
 rintro e w4 ⟨rfl,c⟩
 have B4:=z0a B3 c
 clear a0 a1 a2 a3 b0 b1 b2 b3 c
 obtain ⟨a0,a1,a2,a3⟩:=(bxa.later B4).at4
 obtain ⟨b0,b1,b2,b3⟩:=(bxb.later B4).at4
 dsimp only at a0 a1 a2 a3 b0 b1 b2 b3
 have br:=bxr.later B4
 obtain ⟨r0,r1,r2,r3⟩:=br.at4
 dsimp only [nul] at r0 r1 r2 r3
 simp only [Nat.zero_add] at r1 r2 r3
 have f0:=br.free 0
 have f1:=br.free 1
 have f2:=br.free 2
 have f3:=br.free 3
 have lt1:=br.lt
 have Be:=z0a Bw B4
 go_wp2
 refine bodyPost_ret_by (v:=.tuple #[va 0 0 0 ⟨#[]⟩,.int .i64 31]) ?_ rfl ⟨rfl,?_⟩
 ·simp [results,Tryz.results68,go_sem,r0,r1,r2,r3]
 ·exact (((Be.setCell (p:=⟨w.heap.size+1+1,0,none⟩) (by dsimp only;omega) _).setCell (p:=⟨w.heap.size+1+1,1,none⟩) (by dsimp only;omega) _).setCell (p:=⟨w.heap.size+1+1,2,none⟩) (by dsimp only;omega) _).setCell (p:=⟨w.heap.size+1+1,3,none⟩) (by dsimp only;omega) _
theorem rbin_reck (op:Int) (ak:Int) (bk:Int) (an am bn bm:Int) (ab bb:List UInt8) (w:World) (rk rn rm re:Int) (rb:ByteArray) (o1:¬ op<6) (o2:¬ op > 18) (o4:op≤10) (Ra:z0n 13 #[va ak an am ⟨ab.toArray⟩] w (.bool true)) (Rb:z0n 13 #[va bk bn bm ⟨bb.toArray⟩] w (.bool true)) (Na:z0n 119 #[va ak an am ⟨ab.toArray⟩] w (.bool false)) (Nb:z0n 119 #[va bk bn bm ⟨bb.toArray⟩] w (.bool false)) (F:z0n 134 #[.int .i64 op,va ak an am ⟨ab.toArray⟩,va bk bn bm ⟨bb.toArray⟩] w (.tuple #[va rk rn rm rb,.int .i64 re])) :
  Calls Tryz.prog 68 #[.int .i64 op,va ak an am ⟨ab.toArray⟩,va bk bn bm ⟨bb.toArray⟩] w fun e w'=>e=.returned (.tuple #[va rk rn rm rb,.int .i64 re])∧Below w.heap.size w w':=by
 obtain ⟨w0,hw0,bxa,bxb,bxr,Bw⟩:=z0q w ⟨ak,an,am,ab⟩ ⟨bk,bn,bm,bb⟩
 dsimp only at hw0
 go_enter Tryz.func68,Tryz.ntmps68
 go_upto_region 1 with fail
 rw [← hw0]
 clear hw0
 have B0:Below w0.heap.size w0 w0:=Below.refl _ _
 obtain ⟨a0,a1,a2,a3⟩:=(bxa.later B0).at4
 obtain ⟨b0,b1,b2,b3⟩:=(bxb.later B0).at4
 dsimp only at a0 a1 a2 a3 b0 b1 b2 b3
 go_wp2_with fail
 refine (Ra _ (z0a Bw B0)).mono ?_
 rintro e w1 ⟨rfl,c⟩
 have B1:=z0a B0 c
 clear a0 a1 a2 a3 b0 b1 b2 b3 c
 obtain ⟨a0,a1,a2,a3⟩:=(bxa.later B1).at4
 obtain ⟨b0,b1,b2,b3⟩:=(bxb.later B1).at4
 dsimp only at a0 a1 a2 a3 b0 b1 b2 b3
 go_wp2_with fail
 refine (Rb _ (z0a Bw B1)).mono ?_
 rintro e w2 ⟨rfl,c⟩
 have B2:=z0a B1 c
 clear a0 a1 a2 a3 b0 b1 b2 b3 c
 obtain ⟨a0,a1,a2,a3⟩:=(bxa.later B2).at4
 obtain ⟨b0,b1,b2,b3⟩:=(bxb.later B2).at4
 dsimp only at a0 a1 a2 a3 b0 b1 b2 b3
 go_wp2_with fail
 refine (Na _ (z0a Bw B2)).mono ?_
 rintro e w3 ⟨rfl,c⟩
 have B3:=z0a B2 c
 clear a0 a1 a2 a3 b0 b1 b2 b3 c
 obtain ⟨a0,a1,a2,a3⟩:=(bxa.later B3).at4
 obtain ⟨b0,b1,b2,b3⟩:=(bxb.later B3).at4
 dsimp only at a0 a1 a2 a3 b0 b1 b2 b3
 go_wp2_with fail
 refine (Nb _ (z0a Bw B3)).mono ?_
 rintro e w4 ⟨rfl,c⟩
 have B4:=z0a B3 c
 clear a0 a1 a2 a3 b0 b1 b2 b3 c
 obtain ⟨a0,a1,a2,a3⟩:=(bxa.later B4).at4
 obtain ⟨b0,b1,b2,b3⟩:=(bxb.later B4).at4
 dsimp only at a0 a1 a2 a3 b0 b1 b2 b3
 go_wp2_with fail
 refine (F _ (z0a Bw B4)).mono ?_
 rintro e w5 ⟨rfl,c⟩
 have B5:=z0a B4 c
 clear a0 a1 a2 a3 b0 b1 b2 b3 c
 obtain ⟨a0,a1,a2,a3⟩:=(bxa.later B5).at4
 obtain ⟨b0,b1,b2,b3⟩:=(bxb.later B5).at4
 dsimp only at a0 a1 a2 a3 b0 b1 b2 b3
 have br:=bxr.later B5
 obtain ⟨r0,r1,r2,r3⟩:=br.at4
 dsimp only [nul] at r0 r1 r2 r3
 simp only [Nat.zero_add] at r1 r2 r3
 have f0:=br.free 0
 have f1:=br.free 1
 have f2:=br.free 2
 have f3:=br.free 3
 have lt1:=br.lt
 have Be:=z0a Bw B5
 go_wp2
 refine bodyPost_ret_by (v:=.tuple #[va rk rn rm rb,.int .i64 re]) ?_ rfl ⟨rfl,?_⟩
 ·simp [results,Tryz.results68,go_sem,r0,r1,r2,r3]
 ·exact (((Be.setCell (p:=⟨w.heap.size+1+1,0,none⟩) (by dsimp only;omega) _).setCell (p:=⟨w.heap.size+1+1,1,none⟩) (by dsimp only;omega) _).setCell (p:=⟨w.heap.size+1+1,2,none⟩) (by dsimp only;omega) _).setCell (p:=⟨w.heap.size+1+1,3,none⟩) (by dsimp only;omega) _
theorem rbin_othF (op:Int) (ak:Int) (bk:Int) (an am bn bm:Int) (ab bb:List UInt8) (w:World) (o1:¬ op<6) (o2:¬ op > 18) (o3:¬ op ≥ 17) (o4:¬ op≤10) (ek:(ak != bk)=true) (Ra:z0n 13 #[va ak an am ⟨ab.toArray⟩] w (.bool true)) (Rb:z0n 13 #[va bk bn bm ⟨bb.toArray⟩] w (.bool true)) (Na:z0n 119 #[va ak an am ⟨ab.toArray⟩] w (.bool false)) (Nb:z0n 119 #[va bk bn bm ⟨bb.toArray⟩] w (.bool false)) (Ma:z0n 121 #[va ak an am ⟨ab.toArray⟩] w (.bool false)) :
  Calls Tryz.prog 68 #[.int .i64 op,va ak an am ⟨ab.toArray⟩,va bk bn bm ⟨bb.toArray⟩] w fun e w'=>e=.returned (.tuple #[va 0 0 0 ⟨#[]⟩,.int .i64 31])∧Below w.heap.size w w':=by
 obtain ⟨w0,hw0,bxa,bxb,bxr,Bw⟩:=z0q w ⟨ak,an,am,ab⟩ ⟨bk,bn,bm,bb⟩
 dsimp only at hw0
 go_enter Tryz.func68,Tryz.ntmps68
 go_upto_region 1 with fail
 rw [← hw0]
 clear hw0
 have B0:Below w0.heap.size w0 w0:=Below.refl _ _
 obtain ⟨a0,a1,a2,a3⟩:=(bxa.later B0).at4
 obtain ⟨b0,b1,b2,b3⟩:=(bxb.later B0).at4
 dsimp only at a0 a1 a2 a3 b0 b1 b2 b3
 go_wp2_with fail
 refine (Ra _ (z0a Bw B0)).mono ?_
 rintro e w1 ⟨rfl,c⟩
 have B1:=z0a B0 c
 clear a0 a1 a2 a3 b0 b1 b2 b3 c
 obtain ⟨a0,a1,a2,a3⟩:=(bxa.later B1).at4
 obtain ⟨b0,b1,b2,b3⟩:=(bxb.later B1).at4
 dsimp only at a0 a1 a2 a3 b0 b1 b2 b3
 go_wp2_with fail
 refine (Rb _ (z0a Bw B1)).mono ?_
 rintro e w2 ⟨rfl,c⟩
 have B2:=z0a B1 c
 clear a0 a1 a2 a3 b0 b1 b2 b3 c
 obtain ⟨a0,a1,a2,a3⟩:=(bxa.later B2).at4
 obtain ⟨b0,b1,b2,b3⟩:=(bxb.later B2).at4
 dsimp only at a0 a1 a2 a3 b0 b1 b2 b3
 go_wp2_with fail
 refine (Na _ (z0a Bw B2)).mono ?_
 rintro e w3 ⟨rfl,c⟩
 have B3:=z0a B2 c
 clear a0 a1 a2 a3 b0 b1 b2 b3 c
 obtain ⟨a0,a1,a2,a3⟩:=(bxa.later B3).at4
 obtain ⟨b0,b1,b2,b3⟩:=(bxb.later B3).at4
 dsimp only at a0 a1 a2 a3 b0 b1 b2 b3
 go_wp2_with fail
 refine (Nb _ (z0a Bw B3)).mono ?_
 rintro e w4 ⟨rfl,c⟩
 have B4:=z0a B3 c
 clear a0 a1 a2 a3 b0 b1 b2 b3 c
 obtain ⟨a0,a1,a2,a3⟩:=(bxa.later B4).at4
 obtain ⟨b0,b1,b2,b3⟩:=(bxb.later B4).at4
 dsimp only at a0 a1 a2 a3 b0 b1 b2 b3
 go_wp2_with fail
 refine (Ma _ (z0a Bw B4)).mono ?_
 rintro e w5 ⟨rfl,c⟩
 have B5:=z0a B4 c
 clear a0 a1 a2 a3 b0 b1 b2 b3 c
 obtain ⟨a0,a1,a2,a3⟩:=(bxa.later B5).at4
 obtain ⟨b0,b1,b2,b3⟩:=(bxb.later B5).at4
 dsimp only at a0 a1 a2 a3 b0 b1 b2 b3
 have br:=bxr.later B5
 obtain ⟨r0,r1,r2,r3⟩:=br.at4
 dsimp only [nul] at r0 r1 r2 r3
 simp only [Nat.zero_add] at r1 r2 r3
 have f0:=br.free 0
 have f1:=br.free 1
 have f2:=br.free 2
 have f3:=br.free 3
 have lt1:=br.lt
 have Be:=z0a Bw B5
 go_wp2
 refine bodyPost_ret_by (v:=.tuple #[va 0 0 0 ⟨#[]⟩,.int .i64 31]) ?_ rfl ⟨rfl,?_⟩
 ·simp [results,Tryz.results68,go_sem,r0,r1,r2,r3]
 ·exact (((Be.setCell (p:=⟨w.heap.size+1+1,0,none⟩) (by dsimp only;omega) _).setCell (p:=⟨w.heap.size+1+1,1,none⟩) (by dsimp only;omega) _).setCell (p:=⟨w.heap.size+1+1,2,none⟩) (by dsimp only;omega) _).setCell (p:=⟨w.heap.size+1+1,3,none⟩) (by dsimp only;omega) _
theorem rbin_high (op:Int) (ak:Int) (bk:Int) (an am bn bm:Int) (ab bb:List UInt8) (w:World) (o1:¬ op<6) (o2:op > 18)  :
  Calls Tryz.prog 68 #[.int .i64 op,va ak an am ⟨ab.toArray⟩,va bk bn bm ⟨bb.toArray⟩] w fun e w'=>e=.returned (.tuple #[va 0 0 0 ⟨#[]⟩,.int .i64 1])∧Below w.heap.size w w':=by
 obtain ⟨w0,hw0,bxa,bxb,bxr,Bw⟩:=z0q w ⟨ak,an,am,ab⟩ ⟨bk,bn,bm,bb⟩
 dsimp only at hw0
 go_enter Tryz.func68,Tryz.ntmps68
 go_upto_region 1 with fail
 rw [← hw0]
 clear hw0
 have B0:Below w0.heap.size w0 w0:=Below.refl _ _
 obtain ⟨a0,a1,a2,a3⟩:=(bxa.later B0).at4
 obtain ⟨b0,b1,b2,b3⟩:=(bxb.later B0).at4
 dsimp only at a0 a1 a2 a3 b0 b1 b2 b3
 have br:=bxr.later B0
 obtain ⟨r0,r1,r2,r3⟩:=br.at4
 dsimp only [nul] at r0 r1 r2 r3
 simp only [Nat.zero_add] at r1 r2 r3
 have f0:=br.free 0
 have f1:=br.free 1
 have f2:=br.free 2
 have f3:=br.free 3
 have lt1:=br.lt
 have Be:=z0a Bw B0
 go_wp2
 refine bodyPost_ret_by (v:=.tuple #[va 0 0 0 ⟨#[]⟩,.int .i64 1]) ?_ rfl ⟨rfl,?_⟩
 ·simp [results,Tryz.results68,go_sem,r0,r1,r2,r3]
 ·exact (((Be.setCell (p:=⟨w.heap.size+1+1,0,none⟩) (by dsimp only;omega) _).setCell (p:=⟨w.heap.size+1+1,1,none⟩) (by dsimp only;omega) _).setCell (p:=⟨w.heap.size+1+1,2,none⟩) (by dsimp only;omega) _).setCell (p:=⟨w.heap.size+1+1,3,none⟩) (by dsimp only;omega) _
theorem rbin_t17 (ak:Int) (bk:Int) (an am bn bm:Int) (ab bb:List UInt8) (w:World) (rk rn rm:Int) (rb:ByteArray) (t u v:Int) (Ra:z0n 13 #[va ak an am ⟨ab.toArray⟩] w (.bool true)) (Rb:z0n 13 #[va bk bn bm ⟨bb.toArray⟩] w (.bool true)) (Ta:z0n 71 #[va ak an am ⟨ab.toArray⟩] w (.tuple #[.int .i64 t,.bool true])) (Tb:z0n 71 #[va bk bn bm ⟨bb.toArray⟩] w (.tuple #[.int .i64 u,.bool true])) (C:z0n 132 #[.int .i64 t,.int .i64 u] w (.int .i64 v)) (O:z0n 128 #[.int .i64 v] w (va rk rn rm rb)) :
  Calls Tryz.prog 68 #[.int .i64 17,va ak an am ⟨ab.toArray⟩,va bk bn bm ⟨bb.toArray⟩] w fun e w'=>e=.returned (.tuple #[va rk rn rm rb,.int .i64 0])∧Below w.heap.size w w':=by
 obtain ⟨w0,hw0,bxa,bxb,bxr,Bw⟩:=z0q w ⟨ak,an,am,ab⟩ ⟨bk,bn,bm,bb⟩
 dsimp only at hw0
 go_enter Tryz.func68,Tryz.ntmps68
 go_upto_region 1 with fail
 rw [← hw0]
 clear hw0
 have B0:Below w0.heap.size w0 w0:=Below.refl _ _
 obtain ⟨a0,a1,a2,a3⟩:=(bxa.later B0).at4
 obtain ⟨b0,b1,b2,b3⟩:=(bxb.later B0).at4
 dsimp only at a0 a1 a2 a3 b0 b1 b2 b3
 go_wp2_with fail
 refine (Ra _ (z0a Bw B0)).mono ?_
 rintro e w1 ⟨rfl,c⟩
 have B1:=z0a B0 c
 clear a0 a1 a2 a3 b0 b1 b2 b3 c
 obtain ⟨a0,a1,a2,a3⟩:=(bxa.later B1).at4
 obtain ⟨b0,b1,b2,b3⟩:=(bxb.later B1).at4
 dsimp only at a0 a1 a2 a3 b0 b1 b2 b3
 go_wp2_with fail
 refine (Rb _ (z0a Bw B1)).mono ?_
 rintro e w2 ⟨rfl,c⟩
 have B2:=z0a B1 c
 clear a0 a1 a2 a3 b0 b1 b2 b3 c
 obtain ⟨a0,a1,a2,a3⟩:=(bxa.later B2).at4
 obtain ⟨b0,b1,b2,b3⟩:=(bxb.later B2).at4
 dsimp only at a0 a1 a2 a3 b0 b1 b2 b3
 go_wp2_with fail
 refine (Ta _ (z0a Bw B2)).mono ?_
 rintro e w3 ⟨rfl,c⟩
 have B3:=z0a B2 c
 clear a0 a1 a2 a3 b0 b1 b2 b3 c
 obtain ⟨a0,a1,a2,a3⟩:=(bxa.later B3).at4
 obtain ⟨b0,b1,b2,b3⟩:=(bxb.later B3).at4
 dsimp only at a0 a1 a2 a3 b0 b1 b2 b3
 go_wp2_with fail
 refine (Tb _ (z0a Bw B3)).mono ?_
 rintro e w4 ⟨rfl,c⟩
 have B4:=z0a B3 c
 clear a0 a1 a2 a3 b0 b1 b2 b3 c
 obtain ⟨a0,a1,a2,a3⟩:=(bxa.later B4).at4
 obtain ⟨b0,b1,b2,b3⟩:=(bxb.later B4).at4
 dsimp only at a0 a1 a2 a3 b0 b1 b2 b3
 go_wp2_with fail
 refine (C _ (z0a Bw B4)).mono ?_
 rintro e w5 ⟨rfl,c⟩
 have B5:=z0a B4 c
 clear a0 a1 a2 a3 b0 b1 b2 b3 c
 obtain ⟨a0,a1,a2,a3⟩:=(bxa.later B5).at4
 obtain ⟨b0,b1,b2,b3⟩:=(bxb.later B5).at4
 dsimp only at a0 a1 a2 a3 b0 b1 b2 b3
 go_wp2_with fail
 refine (O _ (z0a Bw B5)).mono ?_
 rintro e w6 ⟨rfl,c⟩
 have B6:=z0a B5 c
 clear a0 a1 a2 a3 b0 b1 b2 b3 c
 obtain ⟨a0,a1,a2,a3⟩:=(bxa.later B6).at4
 obtain ⟨b0,b1,b2,b3⟩:=(bxb.later B6).at4
 dsimp only at a0 a1 a2 a3 b0 b1 b2 b3
 have br:=bxr.later B6
 obtain ⟨r0,r1,r2,r3⟩:=br.at4
 dsimp only [nul] at r0 r1 r2 r3
 simp only [Nat.zero_add] at r1 r2 r3
 have f0:=br.free 0
 have f1:=br.free 1
 have f2:=br.free 2
 have f3:=br.free 3
 have lt1:=br.lt
 have Be:=z0a Bw B6
 go_wp2
 refine bodyPost_ret_by (v:=.tuple #[va rk rn rm rb,.int .i64 0]) ?_ rfl ⟨rfl,?_⟩
 ·simp [results,Tryz.results68,go_sem,r0,r1,r2,r3]
 ·exact (((Be.setCell (p:=⟨w.heap.size+1+1,0,none⟩) (by dsimp only;omega) _).setCell (p:=⟨w.heap.size+1+1,1,none⟩) (by dsimp only;omega) _).setCell (p:=⟨w.heap.size+1+1,2,none⟩) (by dsimp only;omega) _).setCell (p:=⟨w.heap.size+1+1,3,none⟩) (by dsimp only;omega) _
theorem rbin_t18 (ak:Int) (bk:Int) (an am bn bm:Int) (ab bb:List UInt8) (w:World) (rk rn rm:Int) (rb:ByteArray) (t u v:Int) (Ra:z0n 13 #[va ak an am ⟨ab.toArray⟩] w (.bool true)) (Rb:z0n 13 #[va bk bn bm ⟨bb.toArray⟩] w (.bool true)) (Ta:z0n 71 #[va ak an am ⟨ab.toArray⟩] w (.tuple #[.int .i64 t,.bool true])) (Tb:z0n 71 #[va bk bn bm ⟨bb.toArray⟩] w (.tuple #[.int .i64 u,.bool true])) (C:z0n 133 #[.int .i64 t,.int .i64 u] w (.int .i64 v)) (O:z0n 128 #[.int .i64 v] w (va rk rn rm rb)) :
  Calls Tryz.prog 68 #[.int .i64 18,va ak an am ⟨ab.toArray⟩,va bk bn bm ⟨bb.toArray⟩] w fun e w'=>e=.returned (.tuple #[va rk rn rm rb,.int .i64 0])∧Below w.heap.size w w':=by
 obtain ⟨w0,hw0,bxa,bxb,bxr,Bw⟩:=z0q w ⟨ak,an,am,ab⟩ ⟨bk,bn,bm,bb⟩
 dsimp only at hw0
 go_enter Tryz.func68,Tryz.ntmps68
 go_upto_region 1 with fail
 rw [← hw0]
 clear hw0
 have B0:Below w0.heap.size w0 w0:=Below.refl _ _
 obtain ⟨a0,a1,a2,a3⟩:=(bxa.later B0).at4
 obtain ⟨b0,b1,b2,b3⟩:=(bxb.later B0).at4
 dsimp only at a0 a1 a2 a3 b0 b1 b2 b3
 go_wp2_with fail
 refine (Ra _ (z0a Bw B0)).mono ?_
 rintro e w1 ⟨rfl,c⟩
 have B1:=z0a B0 c
 clear a0 a1 a2 a3 b0 b1 b2 b3 c
 obtain ⟨a0,a1,a2,a3⟩:=(bxa.later B1).at4
 obtain ⟨b0,b1,b2,b3⟩:=(bxb.later B1).at4
 dsimp only at a0 a1 a2 a3 b0 b1 b2 b3
 go_wp2_with fail
 refine (Rb _ (z0a Bw B1)).mono ?_
 rintro e w2 ⟨rfl,c⟩
 have B2:=z0a B1 c
 clear a0 a1 a2 a3 b0 b1 b2 b3 c
 obtain ⟨a0,a1,a2,a3⟩:=(bxa.later B2).at4
 obtain ⟨b0,b1,b2,b3⟩:=(bxb.later B2).at4
 dsimp only at a0 a1 a2 a3 b0 b1 b2 b3
 go_wp2_with fail
 refine (Ta _ (z0a Bw B2)).mono ?_
 rintro e w3 ⟨rfl,c⟩
 have B3:=z0a B2 c
 clear a0 a1 a2 a3 b0 b1 b2 b3 c
 obtain ⟨a0,a1,a2,a3⟩:=(bxa.later B3).at4
 obtain ⟨b0,b1,b2,b3⟩:=(bxb.later B3).at4
 dsimp only at a0 a1 a2 a3 b0 b1 b2 b3
 go_wp2_with fail
 refine (Tb _ (z0a Bw B3)).mono ?_
 rintro e w4 ⟨rfl,c⟩
 have B4:=z0a B3 c
 clear a0 a1 a2 a3 b0 b1 b2 b3 c
 obtain ⟨a0,a1,a2,a3⟩:=(bxa.later B4).at4
 obtain ⟨b0,b1,b2,b3⟩:=(bxb.later B4).at4
 dsimp only at a0 a1 a2 a3 b0 b1 b2 b3
 go_wp2_with fail
 refine (C _ (z0a Bw B4)).mono ?_
 rintro e w5 ⟨rfl,c⟩
 have B5:=z0a B4 c
 clear a0 a1 a2 a3 b0 b1 b2 b3 c
 obtain ⟨a0,a1,a2,a3⟩:=(bxa.later B5).at4
 obtain ⟨b0,b1,b2,b3⟩:=(bxb.later B5).at4
 dsimp only at a0 a1 a2 a3 b0 b1 b2 b3
 go_wp2_with fail
 refine (O _ (z0a Bw B5)).mono ?_
 rintro e w6 ⟨rfl,c⟩
 have B6:=z0a B5 c
 clear a0 a1 a2 a3 b0 b1 b2 b3 c
 obtain ⟨a0,a1,a2,a3⟩:=(bxa.later B6).at4
 obtain ⟨b0,b1,b2,b3⟩:=(bxb.later B6).at4
 dsimp only at a0 a1 a2 a3 b0 b1 b2 b3
 have br:=bxr.later B6
 obtain ⟨r0,r1,r2,r3⟩:=br.at4
 dsimp only [nul] at r0 r1 r2 r3
 simp only [Nat.zero_add] at r1 r2 r3
 have f0:=br.free 0
 have f1:=br.free 1
 have f2:=br.free 2
 have f3:=br.free 3
 have lt1:=br.lt
 have Be:=z0a Bw B6
 go_wp2
 refine bodyPost_ret_by (v:=.tuple #[va rk rn rm rb,.int .i64 0]) ?_ rfl ⟨rfl,?_⟩
 ·simp [results,Tryz.results68,go_sem,r0,r1,r2,r3]
 ·exact (((Be.setCell (p:=⟨w.heap.size+1+1,0,none⟩) (by dsimp only;omega) _).setCell (p:=⟨w.heap.size+1+1,1,none⟩) (by dsimp only;omega) _).setCell (p:=⟨w.heap.size+1+1,2,none⟩) (by dsimp only;omega) _).setCell (p:=⟨w.heap.size+1+1,3,none⟩) (by dsimp only;omega) _
theorem rbin_nullA (op:Int) (ak:Int) (bk:Int) (an am bn bm:Int) (ab bb:List UInt8) (w:World) (o1:¬ op<6) (o2:¬ op > 18) (o3:¬ op ≥ 17) (Ra:z0n 13 #[va ak an am ⟨ab.toArray⟩] w (.bool true)) (Rb:z0n 13 #[va bk bn bm ⟨bb.toArray⟩] w (.bool true)) (Na:z0n 119 #[va ak an am ⟨ab.toArray⟩] w (.bool true)) :
  Calls Tryz.prog 68 #[.int .i64 op,va ak an am ⟨ab.toArray⟩,va bk bn bm ⟨bb.toArray⟩] w fun e w'=>e=.returned (.tuple #[va 0 0 0 ⟨#[]⟩,.int .i64 0])∧Below w.heap.size w w':=by
 obtain ⟨w0,hw0,bxa,bxb,bxr,Bw⟩:=z0q w ⟨ak,an,am,ab⟩ ⟨bk,bn,bm,bb⟩
 dsimp only at hw0
 go_enter Tryz.func68,Tryz.ntmps68
 go_upto_region 1 with fail
 rw [← hw0]
 clear hw0
 have B0:Below w0.heap.size w0 w0:=Below.refl _ _
 obtain ⟨a0,a1,a2,a3⟩:=(bxa.later B0).at4
 obtain ⟨b0,b1,b2,b3⟩:=(bxb.later B0).at4
 dsimp only at a0 a1 a2 a3 b0 b1 b2 b3
 go_wp2_with fail
 refine (Ra _ (z0a Bw B0)).mono ?_
 rintro e w1 ⟨rfl,c⟩
 have B1:=z0a B0 c
 clear a0 a1 a2 a3 b0 b1 b2 b3 c
 obtain ⟨a0,a1,a2,a3⟩:=(bxa.later B1).at4
 obtain ⟨b0,b1,b2,b3⟩:=(bxb.later B1).at4
 dsimp only at a0 a1 a2 a3 b0 b1 b2 b3
 go_wp2_with fail
 refine (Rb _ (z0a Bw B1)).mono ?_
 rintro e w2 ⟨rfl,c⟩
 have B2:=z0a B1 c
 clear a0 a1 a2 a3 b0 b1 b2 b3 c
 obtain ⟨a0,a1,a2,a3⟩:=(bxa.later B2).at4
 obtain ⟨b0,b1,b2,b3⟩:=(bxb.later B2).at4
 dsimp only at a0 a1 a2 a3 b0 b1 b2 b3
 go_wp2_with fail
 refine (Na _ (z0a Bw B2)).mono ?_
 rintro e w3 ⟨rfl,c⟩
 have B3:=z0a B2 c
 clear a0 a1 a2 a3 b0 b1 b2 b3 c
 obtain ⟨a0,a1,a2,a3⟩:=(bxa.later B3).at4
 obtain ⟨b0,b1,b2,b3⟩:=(bxb.later B3).at4
 dsimp only at a0 a1 a2 a3 b0 b1 b2 b3
 have br:=bxr.later B3
 obtain ⟨r0,r1,r2,r3⟩:=br.at4
 dsimp only [nul] at r0 r1 r2 r3
 simp only [Nat.zero_add] at r1 r2 r3
 have f0:=br.free 0
 have f1:=br.free 1
 have f2:=br.free 2
 have f3:=br.free 3
 have lt1:=br.lt
 have Be:=z0a Bw B3
 go_wp2
 refine bodyPost_ret_by (v:=.tuple #[va 0 0 0 ⟨#[]⟩,.int .i64 0]) ?_ rfl ⟨rfl,?_⟩
 ·simp [results,Tryz.results68,go_sem,r0,r1,r2,r3]
 ·exact (((Be.setCell (p:=⟨w.heap.size+1+1,0,none⟩) (by dsimp only;omega) _).setCell (p:=⟨w.heap.size+1+1,1,none⟩) (by dsimp only;omega) _).setCell (p:=⟨w.heap.size+1+1,2,none⟩) (by dsimp only;omega) _).setCell (p:=⟨w.heap.size+1+1,3,none⟩) (by dsimp only;omega) _
theorem rbin_nums (op:Int) (ak:Int) (bk:Int) (an am bn bm:Int) (ab bb:List UInt8) (w:World) (rk rn rm:Int) (rb:ByteArray) (o1:¬ op<6) (o2:¬ op > 18) (o3:¬ op ≥ 17) (o4:¬ op≤10) (Ra:z0n 13 #[va ak an am ⟨ab.toArray⟩] w (.bool true)) (Rb:z0n 13 #[va bk bn bm ⟨bb.toArray⟩] w (.bool true)) (Na:z0n 119 #[va ak an am ⟨ab.toArray⟩] w (.bool false)) (Nb:z0n 119 #[va bk bn bm ⟨bb.toArray⟩] w (.bool false)) (Ma:z0n 121 #[va ak an am ⟨ab.toArray⟩] w (.bool true)) (Mb:z0n 121 #[va bk bn bm ⟨bb.toArray⟩] w (.bool true)) (c:Int) (C:∀ W,Calls Tryz.prog 137 #[dv an am,dv bn bm] W fun e w'=>e=.returned (.int .i64 c)∧Grew W w') (T:∀ W,Calls Tryz.prog 135 #[.bool (hb7 op c)] W fun e w'=>e=.returned (va rk rn rm rb)∧Grew W w') :
  Calls Tryz.prog 68 #[.int .i64 op,va ak an am ⟨ab.toArray⟩,va bk bn bm ⟨bb.toArray⟩] w fun e w'=>e=.returned (.tuple #[va rk rn rm rb,.int .i64 0])∧Below w.heap.size w w':=by
 obtain ⟨w0,hw0,bxa,bxb,bxr,Bw⟩:=z0q w ⟨ak,an,am,ab⟩ ⟨bk,bn,bm,bb⟩
 dsimp only at hw0
 go_enter Tryz.func68,Tryz.ntmps68
 go_upto_region 1 with fail
 rw [← hw0]
 clear hw0
 have B0:Below w0.heap.size w0 w0:=Below.refl _ _
 obtain ⟨a0,a1,a2,a3⟩:=(bxa.later B0).at4
 obtain ⟨b0,b1,b2,b3⟩:=(bxb.later B0).at4
 dsimp only at a0 a1 a2 a3 b0 b1 b2 b3
 go_wp2_with fail
 refine (Ra _ (z0a Bw B0)).mono ?_
 rintro e w1 ⟨rfl,c⟩
 have B1:=z0a B0 c
 clear a0 a1 a2 a3 b0 b1 b2 b3 c
 obtain ⟨a0,a1,a2,a3⟩:=(bxa.later B1).at4
 obtain ⟨b0,b1,b2,b3⟩:=(bxb.later B1).at4
 dsimp only at a0 a1 a2 a3 b0 b1 b2 b3
 go_wp2_with fail
 refine (Rb _ (z0a Bw B1)).mono ?_
 rintro e w2 ⟨rfl,c⟩
 have B2:=z0a B1 c
 clear a0 a1 a2 a3 b0 b1 b2 b3 c
 obtain ⟨a0,a1,a2,a3⟩:=(bxa.later B2).at4
 obtain ⟨b0,b1,b2,b3⟩:=(bxb.later B2).at4
 dsimp only at a0 a1 a2 a3 b0 b1 b2 b3
 go_wp2_with fail
 refine (Na _ (z0a Bw B2)).mono ?_
 rintro e w3 ⟨rfl,c⟩
 have B3:=z0a B2 c
 clear a0 a1 a2 a3 b0 b1 b2 b3 c
 obtain ⟨a0,a1,a2,a3⟩:=(bxa.later B3).at4
 obtain ⟨b0,b1,b2,b3⟩:=(bxb.later B3).at4
 dsimp only at a0 a1 a2 a3 b0 b1 b2 b3
 go_wp2_with fail
 refine (Nb _ (z0a Bw B3)).mono ?_
 rintro e w4 ⟨rfl,c⟩
 have B4:=z0a B3 c
 clear a0 a1 a2 a3 b0 b1 b2 b3 c
 obtain ⟨a0,a1,a2,a3⟩:=(bxa.later B4).at4
 obtain ⟨b0,b1,b2,b3⟩:=(bxb.later B4).at4
 dsimp only at a0 a1 a2 a3 b0 b1 b2 b3
 go_wp2_with fail
 refine (Ma _ (z0a Bw B4)).mono ?_
 rintro e w5 ⟨rfl,c⟩
 have B5:=z0a B4 c
 clear a0 a1 a2 a3 b0 b1 b2 b3 c
 obtain ⟨a0,a1,a2,a3⟩:=(bxa.later B5).at4
 obtain ⟨b0,b1,b2,b3⟩:=(bxb.later B5).at4
 dsimp only at a0 a1 a2 a3 b0 b1 b2 b3
 go_wp2_with fail
 refine (Mb _ (z0a Bw B5)).mono ?_
 rintro e w6 ⟨rfl,c⟩
 have B6:=z0a B5 c
 clear a0 a1 a2 a3 b0 b1 b2 b3 c
 obtain ⟨a0,a1,a2,a3⟩:=(bxa.later B6).at4
 obtain ⟨b0,b1,b2,b3⟩:=(bxb.later B6).at4
 dsimp only at a0 a1 a2 a3 b0 b1 b2 b3
 have br:=bxr.later B6
 obtain ⟨r0,r1,r2,r3⟩:=br.at4
 dsimp only [nul] at r0 r1 r2 r3
 simp only [Nat.zero_add] at r1 r2 r3
 have f0:=br.free 0
 have f1:=br.free 1
 have f2:=br.free 2
 have f3:=br.free 3
 have lt1:=br.lt
 have Be:=z0a Bw B6
 simp only [Nat.zero_add] at a1 a2 a3 b1 b2 b3
 have lta:=(bxa.later B6).lt
 have ltb:=(bxb.later B6).lt
 clear bxa bxb bxr br
 have U:=fun k n m b W=>z3z k n m b W
 have C4:∀ W,Grew w6 W→Calls Tryz.prog 137 #[dv an am,dv bn bm] W fun e w'=>e=.returned (.int .i64 c)∧Grew W w':=fun W h=>C W
 have HH:=fun W=>rholds_any op c W
 have TT:=fun W=>T W
 clear Ra Rb Na Nb Ma Mb C T B0 B1 B2 B3 B4 B5 B6 Bw
 go_wp2_with fail
 go_region_held2 (fun W=>W.cell? ⟨w.heap.size,0,none⟩=some (.int .i64 ak)∧W.cell? ⟨w.heap.size,1,none⟩=some (.int .i64 an)∧W.cell? ⟨w.heap.size,2,none⟩=some (.int .i64 am)∧W.cell? ⟨w.heap.size,3,none⟩=some (.string ⟨ab.toArray⟩) ∧
   W.cell? ⟨w.heap.size+1,0,none⟩=some (.int .i64 bk)∧W.cell? ⟨w.heap.size+1,1,none⟩=some (.int .i64 bn)∧W.cell? ⟨w.heap.size+1,2,none⟩=some (.int .i64 bm)∧W.cell? ⟨w.heap.size+1,3,none⟩=some (.string ⟨bb.toArray⟩)) (simp (maxDischargeDepth:=12) [go_sem,a0,a1,a2,a3,b0,b1,b2,b3,lta,ltb]) (first
  | (go_at_call 127;refine (U _ _ _ _ _).mono ?_;rintro e wc ⟨rfl,os1,n1,rfl⟩)
  | (go_at_call 137;refine (C4 _ gB).mono ?_;rintro e wc ⟨rfl,os2,n2,rfl⟩)
  | (go_at_call 136;refine (HH _).mono ?_;rintro e wc ⟨rfl,rfl⟩)
  | (go_at_call 135;refine (TT _).mono ?_;rintro e wc ⟨rfl,os3,n3,rfl⟩))
 go_wp2
 refine bodyPost_ret_by (v:=.tuple #[va rk rn rm rb,.int .i64 0]) ?_ rfl ⟨rfl,?_⟩
 ·simp [results,Tryz.results68,go_sem,r0,r1,r2,r3,lt1]
 ·refine z0a (Be.setCell (p:=⟨w.heap.size+1+1,0,none⟩) (by dsimp only;omega) (.int .i64 rk) |>.setCell (p:=⟨w.heap.size+1+1,1,none⟩) (by dsimp only;omega) (.int .i64 rn) |>.setCell (p:=⟨w.heap.size+1+1,2,none⟩) (by dsimp only;omega) (.int .i64 rm) |>.setCell (p:=⟨w.heap.size+1+1,3,none⟩) (by dsimp only;omega) (.string rb)) (Grew.below ?_)
  repeat exact gB
theorem rbin_othT (op:Int) (ak:Int) (bk:Int) (an am bn bm:Int) (ab bb:List UInt8) (w:World) (o1:¬ op<6) (o2:¬ op > 18) (o3:¬ op ≥ 17) (o4:¬ op≤10) (ek:(ak != bk)=true) (Ra:z0n 13 #[va ak an am ⟨ab.toArray⟩] w (.bool true)) (Rb:z0n 13 #[va bk bn bm ⟨bb.toArray⟩] w (.bool true)) (Na:z0n 119 #[va ak an am ⟨ab.toArray⟩] w (.bool false)) (Nb:z0n 119 #[va bk bn bm ⟨bb.toArray⟩] w (.bool false)) (Ma:z0n 121 #[va ak an am ⟨ab.toArray⟩] w (.bool true)) (Mb:z0n 121 #[va bk bn bm ⟨bb.toArray⟩] w (.bool false)) :
  Calls Tryz.prog 68 #[.int .i64 op,va ak an am ⟨ab.toArray⟩,va bk bn bm ⟨bb.toArray⟩] w fun e w'=>e=.returned (.tuple #[va 0 0 0 ⟨#[]⟩,.int .i64 31])∧Below w.heap.size w w':=by
 obtain ⟨w0,hw0,bxa,bxb,bxr,Bw⟩:=z0q w ⟨ak,an,am,ab⟩ ⟨bk,bn,bm,bb⟩
 dsimp only at hw0
 go_enter Tryz.func68,Tryz.ntmps68
 go_upto_region 1 with fail
 rw [← hw0]
 clear hw0
 have B0:Below w0.heap.size w0 w0:=Below.refl _ _
 obtain ⟨a0,a1,a2,a3⟩:=(bxa.later B0).at4
 obtain ⟨b0,b1,b2,b3⟩:=(bxb.later B0).at4
 dsimp only at a0 a1 a2 a3 b0 b1 b2 b3
 go_wp2_with fail
 refine (Ra _ (z0a Bw B0)).mono ?_
 rintro e w1 ⟨rfl,c⟩
 have B1:=z0a B0 c
 clear a0 a1 a2 a3 b0 b1 b2 b3 c
 obtain ⟨a0,a1,a2,a3⟩:=(bxa.later B1).at4
 obtain ⟨b0,b1,b2,b3⟩:=(bxb.later B1).at4
 dsimp only at a0 a1 a2 a3 b0 b1 b2 b3
 go_wp2_with fail
 refine (Rb _ (z0a Bw B1)).mono ?_
 rintro e w2 ⟨rfl,c⟩
 have B2:=z0a B1 c
 clear a0 a1 a2 a3 b0 b1 b2 b3 c
 obtain ⟨a0,a1,a2,a3⟩:=(bxa.later B2).at4
 obtain ⟨b0,b1,b2,b3⟩:=(bxb.later B2).at4
 dsimp only at a0 a1 a2 a3 b0 b1 b2 b3
 go_wp2_with fail
 refine (Na _ (z0a Bw B2)).mono ?_
 rintro e w3 ⟨rfl,c⟩
 have B3:=z0a B2 c
 clear a0 a1 a2 a3 b0 b1 b2 b3 c
 obtain ⟨a0,a1,a2,a3⟩:=(bxa.later B3).at4
 obtain ⟨b0,b1,b2,b3⟩:=(bxb.later B3).at4
 dsimp only at a0 a1 a2 a3 b0 b1 b2 b3
 go_wp2_with fail
 refine (Nb _ (z0a Bw B3)).mono ?_
 rintro e w4 ⟨rfl,c⟩
 have B4:=z0a B3 c
 clear a0 a1 a2 a3 b0 b1 b2 b3 c
 obtain ⟨a0,a1,a2,a3⟩:=(bxa.later B4).at4
 obtain ⟨b0,b1,b2,b3⟩:=(bxb.later B4).at4
 dsimp only at a0 a1 a2 a3 b0 b1 b2 b3
 go_wp2_with fail
 refine (Ma _ (z0a Bw B4)).mono ?_
 rintro e w5 ⟨rfl,c⟩
 have B5:=z0a B4 c
 clear a0 a1 a2 a3 b0 b1 b2 b3 c
 obtain ⟨a0,a1,a2,a3⟩:=(bxa.later B5).at4
 obtain ⟨b0,b1,b2,b3⟩:=(bxb.later B5).at4
 dsimp only at a0 a1 a2 a3 b0 b1 b2 b3
 go_wp2_with fail
 refine (Mb _ (z0a Bw B5)).mono ?_
 rintro e w6 ⟨rfl,c⟩
 have B6:=z0a B5 c
 clear a0 a1 a2 a3 b0 b1 b2 b3 c
 obtain ⟨a0,a1,a2,a3⟩:=(bxa.later B6).at4
 obtain ⟨b0,b1,b2,b3⟩:=(bxb.later B6).at4
 dsimp only at a0 a1 a2 a3 b0 b1 b2 b3
 have br:=bxr.later B6
 obtain ⟨r0,r1,r2,r3⟩:=br.at4
 dsimp only [nul] at r0 r1 r2 r3
 simp only [Nat.zero_add] at r1 r2 r3
 have f0:=br.free 0
 have f1:=br.free 1
 have f2:=br.free 2
 have f3:=br.free 3
 have lt1:=br.lt
 have Be:=z0a Bw B6
 go_wp2
 refine bodyPost_ret_by (v:=.tuple #[va 0 0 0 ⟨#[]⟩,.int .i64 31]) ?_ rfl ⟨rfl,?_⟩
 ·simp [results,Tryz.results68,go_sem,r0,r1,r2,r3]
 ·exact (((Be.setCell (p:=⟨w.heap.size+1+1,0,none⟩) (by dsimp only;omega) _).setCell (p:=⟨w.heap.size+1+1,1,none⟩) (by dsimp only;omega) _).setCell (p:=⟨w.heap.size+1+1,2,none⟩) (by dsimp only;omega) _).setCell (p:=⟨w.heap.size+1+1,3,none⟩) (by dsimp only;omega) _
theorem rbin_badA (op:Int) (ak:Int) (bk:Int) (an am bn bm:Int) (ab bb:List UInt8) (w:World) (o1:¬ op<6) (o2:¬ op > 18) (Ra:z0n 13 #[va ak an am ⟨ab.toArray⟩] w (.bool false)) :
  Calls Tryz.prog 68 #[.int .i64 op,va ak an am ⟨ab.toArray⟩,va bk bn bm ⟨bb.toArray⟩] w fun e w'=>e=.returned (.tuple #[va 0 0 0 ⟨#[]⟩,.int .i64 1])∧Below w.heap.size w w':=by
 obtain ⟨w0,hw0,bxa,bxb,bxr,Bw⟩:=z0q w ⟨ak,an,am,ab⟩ ⟨bk,bn,bm,bb⟩
 dsimp only at hw0
 go_enter Tryz.func68,Tryz.ntmps68
 go_upto_region 1 with fail
 rw [← hw0]
 clear hw0
 have B0:Below w0.heap.size w0 w0:=Below.refl _ _
 obtain ⟨a0,a1,a2,a3⟩:=(bxa.later B0).at4
 obtain ⟨b0,b1,b2,b3⟩:=(bxb.later B0).at4
 dsimp only at a0 a1 a2 a3 b0 b1 b2 b3
 go_wp2_with fail
 refine (Ra _ (z0a Bw B0)).mono ?_
 rintro e w1 ⟨rfl,c⟩
 have B1:=z0a B0 c
 clear a0 a1 a2 a3 b0 b1 b2 b3 c
 obtain ⟨a0,a1,a2,a3⟩:=(bxa.later B1).at4
 obtain ⟨b0,b1,b2,b3⟩:=(bxb.later B1).at4
 dsimp only at a0 a1 a2 a3 b0 b1 b2 b3
 have br:=bxr.later B1
 obtain ⟨r0,r1,r2,r3⟩:=br.at4
 dsimp only [nul] at r0 r1 r2 r3
 simp only [Nat.zero_add] at r1 r2 r3
 have f0:=br.free 0
 have f1:=br.free 1
 have f2:=br.free 2
 have f3:=br.free 3
 have lt1:=br.lt
 have Be:=z0a Bw B1
 go_wp2
 refine bodyPost_ret_by (v:=.tuple #[va 0 0 0 ⟨#[]⟩,.int .i64 1]) ?_ rfl ⟨rfl,?_⟩
 ·simp [results,Tryz.results68,go_sem,r0,r1,r2,r3]
 ·exact (((Be.setCell (p:=⟨w.heap.size+1+1,0,none⟩) (by dsimp only;omega) _).setCell (p:=⟨w.heap.size+1+1,1,none⟩) (by dsimp only;omega) _).setCell (p:=⟨w.heap.size+1+1,2,none⟩) (by dsimp only;omega) _).setCell (p:=⟨w.heap.size+1+1,3,none⟩) (by dsimp only;omega) _
theorem rbin_tf17 (ak:Int) (bk:Int) (an am bn bm:Int) (ab bb:List UInt8) (w:World) (t u:Int) (y:Bool) (Ra:z0n 13 #[va ak an am ⟨ab.toArray⟩] w (.bool true)) (Rb:z0n 13 #[va bk bn bm ⟨bb.toArray⟩] w (.bool true)) (Ta:z0n 71 #[va ak an am ⟨ab.toArray⟩] w (.tuple #[.int .i64 t,.bool false])) (Tb:z0n 71 #[va bk bn bm ⟨bb.toArray⟩] w (.tuple #[.int .i64 u,.bool y])) :
  Calls Tryz.prog 68 #[.int .i64 17,va ak an am ⟨ab.toArray⟩,va bk bn bm ⟨bb.toArray⟩] w fun e w'=>e=.returned (.tuple #[va 0 0 0 ⟨#[]⟩,.int .i64 31])∧Below w.heap.size w w':=by
 obtain ⟨w0,hw0,bxa,bxb,bxr,Bw⟩:=z0q w ⟨ak,an,am,ab⟩ ⟨bk,bn,bm,bb⟩
 dsimp only at hw0
 go_enter Tryz.func68,Tryz.ntmps68
 go_upto_region 1 with fail
 rw [← hw0]
 clear hw0
 have B0:Below w0.heap.size w0 w0:=Below.refl _ _
 obtain ⟨a0,a1,a2,a3⟩:=(bxa.later B0).at4
 obtain ⟨b0,b1,b2,b3⟩:=(bxb.later B0).at4
 dsimp only at a0 a1 a2 a3 b0 b1 b2 b3
 go_wp2_with fail
 refine (Ra _ (z0a Bw B0)).mono ?_
 rintro e w1 ⟨rfl,c⟩
 have B1:=z0a B0 c
 clear a0 a1 a2 a3 b0 b1 b2 b3 c
 obtain ⟨a0,a1,a2,a3⟩:=(bxa.later B1).at4
 obtain ⟨b0,b1,b2,b3⟩:=(bxb.later B1).at4
 dsimp only at a0 a1 a2 a3 b0 b1 b2 b3
 go_wp2_with fail
 refine (Rb _ (z0a Bw B1)).mono ?_
 rintro e w2 ⟨rfl,c⟩
 have B2:=z0a B1 c
 clear a0 a1 a2 a3 b0 b1 b2 b3 c
 obtain ⟨a0,a1,a2,a3⟩:=(bxa.later B2).at4
 obtain ⟨b0,b1,b2,b3⟩:=(bxb.later B2).at4
 dsimp only at a0 a1 a2 a3 b0 b1 b2 b3
 go_wp2_with fail
 refine (Ta _ (z0a Bw B2)).mono ?_
 rintro e w3 ⟨rfl,c⟩
 have B3:=z0a B2 c
 clear a0 a1 a2 a3 b0 b1 b2 b3 c
 obtain ⟨a0,a1,a2,a3⟩:=(bxa.later B3).at4
 obtain ⟨b0,b1,b2,b3⟩:=(bxb.later B3).at4
 dsimp only at a0 a1 a2 a3 b0 b1 b2 b3
 go_wp2_with fail
 refine (Tb _ (z0a Bw B3)).mono ?_
 rintro e w4 ⟨rfl,c⟩
 have B4:=z0a B3 c
 clear a0 a1 a2 a3 b0 b1 b2 b3 c
 obtain ⟨a0,a1,a2,a3⟩:=(bxa.later B4).at4
 obtain ⟨b0,b1,b2,b3⟩:=(bxb.later B4).at4
 dsimp only at a0 a1 a2 a3 b0 b1 b2 b3
 have br:=bxr.later B4
 obtain ⟨r0,r1,r2,r3⟩:=br.at4
 dsimp only [nul] at r0 r1 r2 r3
 simp only [Nat.zero_add] at r1 r2 r3
 have f0:=br.free 0
 have f1:=br.free 1
 have f2:=br.free 2
 have f3:=br.free 3
 have lt1:=br.lt
 have Be:=z0a Bw B4
 go_wp2
 refine bodyPost_ret_by (v:=.tuple #[va 0 0 0 ⟨#[]⟩,.int .i64 31]) ?_ rfl ⟨rfl,?_⟩
 ·simp [results,Tryz.results68,go_sem,r0,r1,r2,r3]
 ·exact (((Be.setCell (p:=⟨w.heap.size+1+1,0,none⟩) (by dsimp only;omega) _).setCell (p:=⟨w.heap.size+1+1,1,none⟩) (by dsimp only;omega) _).setCell (p:=⟨w.heap.size+1+1,2,none⟩) (by dsimp only;omega) _).setCell (p:=⟨w.heap.size+1+1,3,none⟩) (by dsimp only;omega) _
theorem rbin_tf18 (ak:Int) (bk:Int) (an am bn bm:Int) (ab bb:List UInt8) (w:World) (t u:Int) (y:Bool) (Ra:z0n 13 #[va ak an am ⟨ab.toArray⟩] w (.bool true)) (Rb:z0n 13 #[va bk bn bm ⟨bb.toArray⟩] w (.bool true)) (Ta:z0n 71 #[va ak an am ⟨ab.toArray⟩] w (.tuple #[.int .i64 t,.bool false])) (Tb:z0n 71 #[va bk bn bm ⟨bb.toArray⟩] w (.tuple #[.int .i64 u,.bool y])) :
  Calls Tryz.prog 68 #[.int .i64 18,va ak an am ⟨ab.toArray⟩,va bk bn bm ⟨bb.toArray⟩] w fun e w'=>e=.returned (.tuple #[va 0 0 0 ⟨#[]⟩,.int .i64 31])∧Below w.heap.size w w':=by
 obtain ⟨w0,hw0,bxa,bxb,bxr,Bw⟩:=z0q w ⟨ak,an,am,ab⟩ ⟨bk,bn,bm,bb⟩
 dsimp only at hw0
 go_enter Tryz.func68,Tryz.ntmps68
 go_upto_region 1 with fail
 rw [← hw0]
 clear hw0
 have B0:Below w0.heap.size w0 w0:=Below.refl _ _
 obtain ⟨a0,a1,a2,a3⟩:=(bxa.later B0).at4
 obtain ⟨b0,b1,b2,b3⟩:=(bxb.later B0).at4
 dsimp only at a0 a1 a2 a3 b0 b1 b2 b3
 go_wp2_with fail
 refine (Ra _ (z0a Bw B0)).mono ?_
 rintro e w1 ⟨rfl,c⟩
 have B1:=z0a B0 c
 clear a0 a1 a2 a3 b0 b1 b2 b3 c
 obtain ⟨a0,a1,a2,a3⟩:=(bxa.later B1).at4
 obtain ⟨b0,b1,b2,b3⟩:=(bxb.later B1).at4
 dsimp only at a0 a1 a2 a3 b0 b1 b2 b3
 go_wp2_with fail
 refine (Rb _ (z0a Bw B1)).mono ?_
 rintro e w2 ⟨rfl,c⟩
 have B2:=z0a B1 c
 clear a0 a1 a2 a3 b0 b1 b2 b3 c
 obtain ⟨a0,a1,a2,a3⟩:=(bxa.later B2).at4
 obtain ⟨b0,b1,b2,b3⟩:=(bxb.later B2).at4
 dsimp only at a0 a1 a2 a3 b0 b1 b2 b3
 go_wp2_with fail
 refine (Ta _ (z0a Bw B2)).mono ?_
 rintro e w3 ⟨rfl,c⟩
 have B3:=z0a B2 c
 clear a0 a1 a2 a3 b0 b1 b2 b3 c
 obtain ⟨a0,a1,a2,a3⟩:=(bxa.later B3).at4
 obtain ⟨b0,b1,b2,b3⟩:=(bxb.later B3).at4
 dsimp only at a0 a1 a2 a3 b0 b1 b2 b3
 go_wp2_with fail
 refine (Tb _ (z0a Bw B3)).mono ?_
 rintro e w4 ⟨rfl,c⟩
 have B4:=z0a B3 c
 clear a0 a1 a2 a3 b0 b1 b2 b3 c
 obtain ⟨a0,a1,a2,a3⟩:=(bxa.later B4).at4
 obtain ⟨b0,b1,b2,b3⟩:=(bxb.later B4).at4
 dsimp only at a0 a1 a2 a3 b0 b1 b2 b3
 have br:=bxr.later B4
 obtain ⟨r0,r1,r2,r3⟩:=br.at4
 dsimp only [nul] at r0 r1 r2 r3
 simp only [Nat.zero_add] at r1 r2 r3
 have f0:=br.free 0
 have f1:=br.free 1
 have f2:=br.free 2
 have f3:=br.free 3
 have lt1:=br.lt
 have Be:=z0a Bw B4
 go_wp2
 refine bodyPost_ret_by (v:=.tuple #[va 0 0 0 ⟨#[]⟩,.int .i64 31]) ?_ rfl ⟨rfl,?_⟩
 ·simp [results,Tryz.results68,go_sem,r0,r1,r2,r3]
 ·exact (((Be.setCell (p:=⟨w.heap.size+1+1,0,none⟩) (by dsimp only;omega) _).setCell (p:=⟨w.heap.size+1+1,1,none⟩) (by dsimp only;omega) _).setCell (p:=⟨w.heap.size+1+1,2,none⟩) (by dsimp only;omega) _).setCell (p:=⟨w.heap.size+1+1,3,none⟩) (by dsimp only;omega) _
theorem rbin_nullB (op:Int) (ak:Int) (bk:Int) (an am bn bm:Int) (ab bb:List UInt8) (w:World) (o1:¬ op<6) (o2:¬ op > 18) (o3:¬ op ≥ 17) (Ra:z0n 13 #[va ak an am ⟨ab.toArray⟩] w (.bool true)) (Rb:z0n 13 #[va bk bn bm ⟨bb.toArray⟩] w (.bool true)) (Na:z0n 119 #[va ak an am ⟨ab.toArray⟩] w (.bool false)) (Nb:z0n 119 #[va bk bn bm ⟨bb.toArray⟩] w (.bool true)) :
  Calls Tryz.prog 68 #[.int .i64 op,va ak an am ⟨ab.toArray⟩,va bk bn bm ⟨bb.toArray⟩] w fun e w'=>e=.returned (.tuple #[va 0 0 0 ⟨#[]⟩,.int .i64 0])∧Below w.heap.size w w':=by
 obtain ⟨w0,hw0,bxa,bxb,bxr,Bw⟩:=z0q w ⟨ak,an,am,ab⟩ ⟨bk,bn,bm,bb⟩
 dsimp only at hw0
 go_enter Tryz.func68,Tryz.ntmps68
 go_upto_region 1 with fail
 rw [← hw0]
 clear hw0
 have B0:Below w0.heap.size w0 w0:=Below.refl _ _
 obtain ⟨a0,a1,a2,a3⟩:=(bxa.later B0).at4
 obtain ⟨b0,b1,b2,b3⟩:=(bxb.later B0).at4
 dsimp only at a0 a1 a2 a3 b0 b1 b2 b3
 go_wp2_with fail
 refine (Ra _ (z0a Bw B0)).mono ?_
 rintro e w1 ⟨rfl,c⟩
 have B1:=z0a B0 c
 clear a0 a1 a2 a3 b0 b1 b2 b3 c
 obtain ⟨a0,a1,a2,a3⟩:=(bxa.later B1).at4
 obtain ⟨b0,b1,b2,b3⟩:=(bxb.later B1).at4
 dsimp only at a0 a1 a2 a3 b0 b1 b2 b3
 go_wp2_with fail
 refine (Rb _ (z0a Bw B1)).mono ?_
 rintro e w2 ⟨rfl,c⟩
 have B2:=z0a B1 c
 clear a0 a1 a2 a3 b0 b1 b2 b3 c
 obtain ⟨a0,a1,a2,a3⟩:=(bxa.later B2).at4
 obtain ⟨b0,b1,b2,b3⟩:=(bxb.later B2).at4
 dsimp only at a0 a1 a2 a3 b0 b1 b2 b3
 go_wp2_with fail
 refine (Na _ (z0a Bw B2)).mono ?_
 rintro e w3 ⟨rfl,c⟩
 have B3:=z0a B2 c
 clear a0 a1 a2 a3 b0 b1 b2 b3 c
 obtain ⟨a0,a1,a2,a3⟩:=(bxa.later B3).at4
 obtain ⟨b0,b1,b2,b3⟩:=(bxb.later B3).at4
 dsimp only at a0 a1 a2 a3 b0 b1 b2 b3
 go_wp2_with fail
 refine (Nb _ (z0a Bw B3)).mono ?_
 rintro e w4 ⟨rfl,c⟩
 have B4:=z0a B3 c
 clear a0 a1 a2 a3 b0 b1 b2 b3 c
 obtain ⟨a0,a1,a2,a3⟩:=(bxa.later B4).at4
 obtain ⟨b0,b1,b2,b3⟩:=(bxb.later B4).at4
 dsimp only at a0 a1 a2 a3 b0 b1 b2 b3
 have br:=bxr.later B4
 obtain ⟨r0,r1,r2,r3⟩:=br.at4
 dsimp only [nul] at r0 r1 r2 r3
 simp only [Nat.zero_add] at r1 r2 r3
 have f0:=br.free 0
 have f1:=br.free 1
 have f2:=br.free 2
 have f3:=br.free 3
 have lt1:=br.lt
 have Be:=z0a Bw B4
 go_wp2
 refine bodyPost_ret_by (v:=.tuple #[va 0 0 0 ⟨#[]⟩,.int .i64 0]) ?_ rfl ⟨rfl,?_⟩
 ·simp [results,Tryz.results68,go_sem,r0,r1,r2,r3]
 ·exact (((Be.setCell (p:=⟨w.heap.size+1+1,0,none⟩) (by dsimp only;omega) _).setCell (p:=⟨w.heap.size+1+1,1,none⟩) (by dsimp only;omega) _).setCell (p:=⟨w.heap.size+1+1,2,none⟩) (by dsimp only;omega) _).setCell (p:=⟨w.heap.size+1+1,3,none⟩) (by dsimp only;omega) _
theorem rbin_cmpF (op:Int) (ak:Int) (an am bn bm:Int) (ab bb:List UInt8) (w:World) (rk rn rm:Int) (rb:ByteArray) (o1:¬ op<6) (o2:¬ op > 18) (o3:¬ op ≥ 17) (o4:¬ op≤10) (Ra:z0n 13 #[va ak an am ⟨ab.toArray⟩] w (.bool true)) (Rb:z0n 13 #[va ak bn bm ⟨bb.toArray⟩] w (.bool true)) (Na:z0n 119 #[va ak an am ⟨ab.toArray⟩] w (.bool false)) (Nb:z0n 119 #[va ak bn bm ⟨bb.toArray⟩] w (.bool false)) (Ma:z0n 121 #[va ak an am ⟨ab.toArray⟩] w (.bool false)) (c:Int) (C:z0n 138 #[va ak an am ⟨ab.toArray⟩,va ak bn bm ⟨bb.toArray⟩] w (.int .i64 c)) (HH:z0n 136 #[.int .i64 op,.int .i64 c] w (.bool (hb7 op c))) (T:z0n 135 #[.bool (hb7 op c)] w (va rk rn rm rb)) :
  Calls Tryz.prog 68 #[.int .i64 op,va ak an am ⟨ab.toArray⟩,va ak bn bm ⟨bb.toArray⟩] w fun e w'=>e=.returned (.tuple #[va rk rn rm rb,.int .i64 0])∧Below w.heap.size w w':=by
 obtain ⟨w0,hw0,bxa,bxb,bxr,Bw⟩:=z0q w ⟨ak,an,am,ab⟩ ⟨ak,bn,bm,bb⟩
 dsimp only at hw0
 go_enter Tryz.func68,Tryz.ntmps68
 go_upto_region 1 with fail
 rw [← hw0]
 clear hw0
 have B0:Below w0.heap.size w0 w0:=Below.refl _ _
 obtain ⟨a0,a1,a2,a3⟩:=(bxa.later B0).at4
 obtain ⟨b0,b1,b2,b3⟩:=(bxb.later B0).at4
 dsimp only at a0 a1 a2 a3 b0 b1 b2 b3
 go_wp2_with fail
 refine (Ra _ (z0a Bw B0)).mono ?_
 rintro e w1 ⟨rfl,c⟩
 have B1:=z0a B0 c
 clear a0 a1 a2 a3 b0 b1 b2 b3 c
 obtain ⟨a0,a1,a2,a3⟩:=(bxa.later B1).at4
 obtain ⟨b0,b1,b2,b3⟩:=(bxb.later B1).at4
 dsimp only at a0 a1 a2 a3 b0 b1 b2 b3
 go_wp2_with fail
 refine (Rb _ (z0a Bw B1)).mono ?_
 rintro e w2 ⟨rfl,c⟩
 have B2:=z0a B1 c
 clear a0 a1 a2 a3 b0 b1 b2 b3 c
 obtain ⟨a0,a1,a2,a3⟩:=(bxa.later B2).at4
 obtain ⟨b0,b1,b2,b3⟩:=(bxb.later B2).at4
 dsimp only at a0 a1 a2 a3 b0 b1 b2 b3
 go_wp2_with fail
 refine (Na _ (z0a Bw B2)).mono ?_
 rintro e w3 ⟨rfl,c⟩
 have B3:=z0a B2 c
 clear a0 a1 a2 a3 b0 b1 b2 b3 c
 obtain ⟨a0,a1,a2,a3⟩:=(bxa.later B3).at4
 obtain ⟨b0,b1,b2,b3⟩:=(bxb.later B3).at4
 dsimp only at a0 a1 a2 a3 b0 b1 b2 b3
 go_wp2_with fail
 refine (Nb _ (z0a Bw B3)).mono ?_
 rintro e w4 ⟨rfl,c⟩
 have B4:=z0a B3 c
 clear a0 a1 a2 a3 b0 b1 b2 b3 c
 obtain ⟨a0,a1,a2,a3⟩:=(bxa.later B4).at4
 obtain ⟨b0,b1,b2,b3⟩:=(bxb.later B4).at4
 dsimp only at a0 a1 a2 a3 b0 b1 b2 b3
 go_wp2_with fail
 refine (Ma _ (z0a Bw B4)).mono ?_
 rintro e w5 ⟨rfl,c⟩
 have B5:=z0a B4 c
 clear a0 a1 a2 a3 b0 b1 b2 b3 c
 obtain ⟨a0,a1,a2,a3⟩:=(bxa.later B5).at4
 obtain ⟨b0,b1,b2,b3⟩:=(bxb.later B5).at4
 dsimp only at a0 a1 a2 a3 b0 b1 b2 b3
 go_wp2_with fail
 refine (C _ (z0a Bw B5)).mono ?_
 rintro e w6 ⟨rfl,c⟩
 have B6:=z0a B5 c
 clear a0 a1 a2 a3 b0 b1 b2 b3 c
 obtain ⟨a0,a1,a2,a3⟩:=(bxa.later B6).at4
 obtain ⟨b0,b1,b2,b3⟩:=(bxb.later B6).at4
 dsimp only at a0 a1 a2 a3 b0 b1 b2 b3
 go_wp2_with fail
 refine (HH _ (z0a Bw B6)).mono ?_
 rintro e w7 ⟨rfl,c⟩
 have B7:=z0a B6 c
 clear a0 a1 a2 a3 b0 b1 b2 b3 c
 obtain ⟨a0,a1,a2,a3⟩:=(bxa.later B7).at4
 obtain ⟨b0,b1,b2,b3⟩:=(bxb.later B7).at4
 dsimp only at a0 a1 a2 a3 b0 b1 b2 b3
 go_wp2_with fail
 refine (T _ (z0a Bw B7)).mono ?_
 rintro e w8 ⟨rfl,c⟩
 have B8:=z0a B7 c
 clear a0 a1 a2 a3 b0 b1 b2 b3 c
 obtain ⟨a0,a1,a2,a3⟩:=(bxa.later B8).at4
 obtain ⟨b0,b1,b2,b3⟩:=(bxb.later B8).at4
 dsimp only at a0 a1 a2 a3 b0 b1 b2 b3
 have br:=bxr.later B8
 obtain ⟨r0,r1,r2,r3⟩:=br.at4
 dsimp only [nul] at r0 r1 r2 r3
 simp only [Nat.zero_add] at r1 r2 r3
 have f0:=br.free 0
 have f1:=br.free 1
 have f2:=br.free 2
 have f3:=br.free 3
 have lt1:=br.lt
 have Be:=z0a Bw B8
 go_wp2
 refine bodyPost_ret_by (v:=.tuple #[va rk rn rm rb,.int .i64 0]) ?_ rfl ⟨rfl,?_⟩
 ·simp [results,Tryz.results68,go_sem,r0,r1,r2,r3]
 ·exact (((Be.setCell (p:=⟨w.heap.size+1+1,0,none⟩) (by dsimp only;omega) _).setCell (p:=⟨w.heap.size+1+1,1,none⟩) (by dsimp only;omega) _).setCell (p:=⟨w.heap.size+1+1,2,none⟩) (by dsimp only;omega) _).setCell (p:=⟨w.heap.size+1+1,3,none⟩) (by dsimp only;omega) _
end Go.Proofs.YtibbenhplmmmiaaGreatDoor

namespace Go.Proofs.YtibbenhplmmmiaaGreatDoor
open Go.RowKit Go.Shelf
attribute [local go_sem] z0e z0b z0c z0f z0m z0k z0h z0d z0g z1r z1e z1x z1d z1q z1s z1z z1p z1y z1k z1u
def knR (nm:List UInt8):Int × Int × Bool :=
 if nm=z5n∨nm=sAbs∨nm=sNorm∨nm=sPx∨nm=sPy then (1,1,true) else if nm=z6h∨nm=z5a then (2,2,true) else if nm=z4s then (1,4,true) else (0,0,false)
theorem kn_length (w:World):Calls Tryz.prog 118 #[.string ⟨#[108,101,110,103,116,104]⟩] w fun e w'=>e=.returned (.tuple #[.int .i64 1,.int .i64 1,.bool true])∧w=w':=by
 go_enter Tryz.func118,Tryz.ntmps118
 go_wp2
 refine bodyPost_ret_by (v:=.tuple #[.int .i64 1,.int .i64 1,.bool true]) ?_ rfl ⟨rfl,rfl⟩
 simp [results,Tryz.results118,go_sem]
theorem kn_abs (w:World):Calls Tryz.prog 118 #[.string ⟨#[97,98,115]⟩] w fun e w'=>e=.returned (.tuple #[.int .i64 1,.int .i64 1,.bool true])∧w=w':=by
 go_enter Tryz.func118,Tryz.ntmps118
 go_wp2
 refine bodyPost_ret_by (v:=.tuple #[.int .i64 1,.int .i64 1,.bool true]) ?_ rfl ⟨rfl,rfl⟩
 simp [results,Tryz.results118,go_sem]
theorem kn_norm (w:World):Calls Tryz.prog 118 #[.string ⟨#[110,111,114,109]⟩] w fun e w'=>e=.returned (.tuple #[.int .i64 1,.int .i64 1,.bool true])∧w=w':=by
 go_enter Tryz.func118,Tryz.ntmps118
 go_wp2
 refine bodyPost_ret_by (v:=.tuple #[.int .i64 1,.int .i64 1,.bool true]) ?_ rfl ⟨rfl,rfl⟩
 simp [results,Tryz.results118,go_sem]
theorem kn_px (w:World):Calls Tryz.prog 118 #[.string ⟨#[112,120]⟩] w fun e w'=>e=.returned (.tuple #[.int .i64 1,.int .i64 1,.bool true])∧w=w':=by
 go_enter Tryz.func118,Tryz.ntmps118
 go_wp2
 refine bodyPost_ret_by (v:=.tuple #[.int .i64 1,.int .i64 1,.bool true]) ?_ rfl ⟨rfl,rfl⟩
 simp [results,Tryz.results118,go_sem]
theorem kn_py (w:World):Calls Tryz.prog 118 #[.string ⟨#[112,121]⟩] w fun e w'=>e=.returned (.tuple #[.int .i64 1,.int .i64 1,.bool true])∧w=w':=by
 go_enter Tryz.func118,Tryz.ntmps118
 go_wp2
 refine bodyPost_ret_by (v:=.tuple #[.int .i64 1,.int .i64 1,.bool true]) ?_ rfl ⟨rfl,rfl⟩
 simp [results,Tryz.results118,go_sem]
theorem z7p (w:World):Calls Tryz.prog 118 #[.string ⟨#[112,111,105,110,116]⟩] w fun e w'=>e=.returned (.tuple #[.int .i64 2,.int .i64 2,.bool true])∧w=w':=by
 go_enter Tryz.func118,Tryz.ntmps118
 go_wp2
 refine bodyPost_ret_by (v:=.tuple #[.int .i64 2,.int .i64 2,.bool true]) ?_ rfl ⟨rfl,rfl⟩
 simp [results,Tryz.results118,go_sem]
theorem z3u (w:World):Calls Tryz.prog 118 #[.string ⟨#[114,111,117,110,100]⟩] w fun e w'=>e=.returned (.tuple #[.int .i64 2,.int .i64 2,.bool true])∧w=w':=by
 go_enter Tryz.func118,Tryz.ntmps118
 go_wp2
 refine bodyPost_ret_by (v:=.tuple #[.int .i64 2,.int .i64 2,.bool true]) ?_ rfl ⟨rfl,rfl⟩
 simp [results,Tryz.results118,go_sem]
theorem kn_coalesce (w:World):Calls Tryz.prog 118 #[.string ⟨#[99,111,97,108,101,115,99,101]⟩] w fun e w'=>e=.returned (.tuple #[.int .i64 1,.int .i64 4,.bool true])∧w=w':=by
 go_enter Tryz.func118,Tryz.ntmps118
 go_wp2
 refine bodyPost_ret_by (v:=.tuple #[.int .i64 1,.int .i64 4,.bool true]) ?_ rfl ⟨rfl,rfl⟩
 simp [results,Tryz.results118,go_sem]
theorem kn_other (B:ByteArray) (w:World) (e0:(B.toList==[108,101,110,103,116,104])=false) (e1:(B.toList==[97,98,115])=false) (e2:(B.toList==[110,111,114,109])=false) (e3:(B.toList==[112,120])=false) (e4:(B.toList==[112,121])=false) (e5:(B.toList==[112,111,105,110,116])=false) (e6:(B.toList==[114,111,117,110,100])=false) (e7:(B.toList==[99,111,97,108,101,115,99,101])=false):Calls Tryz.prog 118 #[.string B] w fun e w'=>e=.returned (.tuple #[.int .i64 0,.int .i64 0,.bool false])∧w=w':=by
 go_enter Tryz.func118,Tryz.ntmps118
 go_wp2
 refine bodyPost_ret_by (v:=.tuple #[.int .i64 0,.int .i64 0,.bool false]) ?_ rfl ⟨rfl,rfl⟩
 simp [results,Tryz.results118,go_sem]
def zf (l:List Va) (k:Nat):Bool:=(l.take k).any fun x=>x.k==0
theorem z7e (l:List Va) (k:Nat) (h:k<l.length):zf l (k+1)=(zf l k || (l[k].k==0)):=by
 unfold zf
 rw [List.take_succ_eq_append_getElem h,List.any_append]
 simp
end Go.Proofs.YtibbenhplmmmiaaGreatDoor
