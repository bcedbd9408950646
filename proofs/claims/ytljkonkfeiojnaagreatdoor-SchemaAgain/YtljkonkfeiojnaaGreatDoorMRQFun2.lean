/-
  The walk of EvalRight.
  Two good texts joined are a good text. Nothing of the program is in it.
  What an op comes to may be, or is nothing.
  What functions lean on: eval.pointAt, rounded, isFunction.
  eval.apart, firstKnown, size.
-/
import Derived.Test.YtljkonkfeiojnaaGreatDoorMQQUn
import Derived.Test.YtljkonkfeiojnaaGreatDoorMBVKeyB
import Derived.Deep.Cut
import Derived.Lib.ValidLaws
import Derived.Lib.DecodeN
import Derived.Test.YtljkonkfeiojnaaGreatDoorMNQBinC
import Derived.Test.YtljkonkfeiojnaaGreatDoorMMHTurn
import Derived.Test.YtljkonkfeiojnaaGreatDoorDResc
import Derived.Test.YtljkonkfeiojnaaGreatDoorMCLByte
set_option maxHeartbeats 4000000
set_option maxRecDepth 20000
namespace Go.Proofs.YtljkonkfeiojnaaGreatDoor
open Go.RowKit Go.Shelf
attribute [local go_sem] z0f z0b z0c z0e z0m z0k z0h z0d z0g z2n z1u z3k z1v z2m z2q z3h z2p z3g z2d z2r
end Go.Proofs.YtljkonkfeiojnaaGreatDoor

namespace Go.Proofs.YtljkonkfeiojnaaGreatDoor
open Go.Lib
theorem decN_app (n n' b0 b1 b2 b3 c1 c2 c3:Nat) (h0n:0<n) (hn:n≤n') (e1:1<n→c1=b1) (e2:2<n→c2=b2) (e3:3<n→c3=b3)
  (h:¬ ((decodeN n b0 b1 b2 b3).1=65533∧(decodeN n b0 b1 b2 b3).2=1)) :
  decodeN n' b0 c1 c2 c3=decodeN n b0 b1 b2 b3∧(decodeN n b0 b1 b2 b3).2≤n∧0<(decodeN n b0 b1 b2 b3).2:=by
 by_cases h0:b0<128
 ·simp only [decodeN,if_pos h0]
  exact ⟨trivial,h0n,by decide⟩
 by_cases h6:b0 / 32=6∧(1<n∧b1 / 64=2)
 ·obtain rfl:=e1 h6.2.1
  have h6':b0 / 32=6∧(1<n'∧c1 / 64=2):=⟨h6.1,by omega,h6.2.2⟩
  simp only [decodeN,if_neg h0,if_pos h6,if_pos h6']
  refine ⟨trivial,?_⟩
  split <;> simp <;> omega
 by_cases h14:b0 / 16=14∧(1<n∧b1 / 64=2)∧(2<n∧b2 / 64=2)
 ·obtain rfl:=e1 h14.2.1.1
  obtain rfl:=e2 h14.2.2.1
  have h6':¬ (b0 / 32=6∧(1<n'∧c1 / 64=2)):=by omega
  have h14':b0 / 16=14∧(1<n'∧c1 / 64=2)∧(2<n'∧c2 / 64=2):=⟨h14.1,⟨by omega,h14.2.1.2⟩,by omega,h14.2.2.2⟩
  simp only [decodeN,if_neg h0,if_neg h6,if_neg h6',if_pos h14,if_pos h14']
  refine ⟨trivial,?_⟩
  split <;> simp <;> omega
 by_cases h30:b0 / 8=30∧(1<n∧b1 / 64=2)∧(2<n∧b2 / 64=2)∧(3<n∧b3 / 64=2)
 ·obtain rfl:=e1 h30.2.1.1
  obtain rfl:=e2 h30.2.2.1.1
  obtain rfl:=e3 h30.2.2.2.1
  have h6':¬ (b0 / 32=6∧(1<n'∧c1 / 64=2)):=by omega
  have h14':¬ (b0 / 16=14∧(1<n'∧c1 / 64=2)∧(2<n'∧c2 / 64=2)):=by omega
  have h30':b0 / 8=30∧(1<n'∧c1 / 64=2)∧(2<n'∧c2 / 64=2)∧(3<n'∧c3 / 64=2):=⟨h30.1,⟨by omega,h30.2.1.2⟩,⟨by omega,h30.2.2.1.2⟩,by omega,h30.2.2.2.2⟩
  simp only [decodeN,if_neg h0,if_neg h6,if_neg h6',if_neg h14,if_neg h14',if_pos h30,if_pos h30']
  refine ⟨trivial,?_⟩
  split <;> simp <;> omega
 ·exfalso
  apply h
  simp only [decodeN,if_neg h0,if_neg h6,if_neg h14,if_neg h30]
  exact ⟨trivial,trivial⟩
theorem validD_append:∀ (n:Nat) (l r:List UInt8),l.length≤n→validD l=true→validD r=true→validD (l++r)=true:=by
 intro n
 induction n with
 | zero =>
  intro l r hl _ hr
  obtain rfl:l=[]:=List.length_eq_zero_iff.1 (by omega)
  exact hr
 | succ n ih =>
  intro l r hl hv hr
  by_cases hne:l=[]
  ·subst hne;exact hr
  ·have hp:0<l.length:=List.length_pos_iff.2 hne
   rw [validD_step l hne] at hv
   split at hv
   ·cases hv
   ·rename_i h
    have h':=h
    rw [decodeL_N] at h'
    have hg:∀ i,i<l.length→(l++r).getD i 0=l.getD i 0:=fun i hi=>by simp [List.getD,List.getElem?_append_left hi]
    obtain ⟨e,hle,hlt⟩:=decN_app l.length (l++r).length (l.getD 0 0).toNat (l.getD 1 0).toNat (l.getD 2 0).toNat (l.getD 3 0).toNat ((l++r).getD 1 0).toNat ((l++r).getD 2 0).toNat ((l++r).getD 3 0).toNat hp (by simp) (fun h=>by rw [hg 1 h]) (fun h=>by rw [hg 2 h]) (fun h=>by rw [hg 3 h]) h'
    have ed:decodeL (l++r)=decodeL l:=by rw [decodeL_N,decodeL_N,hg 0 hp];exact e
    rw [← decodeL_N] at hle hlt
    rw [validD_step (l++r) (by simp [hne]),ed,if_neg h,List.drop_append_of_le_length hle]
    exact ih _ _ (by rw [List.length_drop];omega) hv hr
end Go.Proofs.YtljkonkfeiojnaaGreatDoor

namespace Go.Proofs.YtljkonkfeiojnaaGreatDoor
open Go.RowKit Go.Shelf
def okR (r:Va × Int):Prop:=vr r.1=true∧(r.2=0∨r.1=nul)
theorem vr_nul:vr nul=true:=vr_of (by simp [vok,nul])
theorem z4q (e:Int):okR (nul,e):=⟨vr_nul,.inr rfl⟩
theorem ok_int (z:Int):okR (vI z,0):=⟨vr_of (by simp [vok,vI]),.inl rfl⟩
theorem ok_bool (b:Bool):okR (vB b,0):=⟨vr_of (by cases b <;> simp [vok,vB]),.inl rfl⟩
theorem ok_pt (x y:Int) (h:Ga.ok2 x y=true):okR (vP x y,0):=⟨vr_of (by have:=(Ga.ok2_iff x y).1 h;simp [vok,vP];omega),.inl rfl⟩
theorem ok_of (t:Int):okR (vO t,0):=by
 unfold vO
 split
 ·rename_i h
  exact ⟨vr_of (by simp [vok];omega),.inl rfl⟩
 ·exact z4q 0
theorem ok_whole (z e:Int):okR (z1e z e):=by
 unfold z1e
 split
 ·exact ok_int z
 ·exact z4q e
theorem ok_dec (z s:Int) (h:0≤s∧s≤6):okR (decR z s):=by
 unfold decR z5g
 split
 ·refine ⟨vr_of ?_,.inl rfl⟩
  have:0≤fs z s∧fs z s≤6:=by unfold fs;split <;> omega
  simp [vok,vD];omega
 ·exact z4q _
theorem ok_ptR (x y:Int):okR (ptR x y):=by
 unfold ptR z0z Ga.tX Ga.tY Ga.tE
 by_cases h:Ga.ok2 x y=true
 ·simp only [h,if_true]
  exact ok_pt x y h
 ·simp only [h]
  exact z4q 32
theorem ok_cmp (op c:Int):okR (cmpR op c):=by
 unfold cmpR
 repeat' split
 all_goals first|exact ok_bool _|exact z4q _
theorem ok_bin (op:Int) (a b:Va):okR (binR op a b):=by
 unfold binR
 split
 ·exact z4q 1
 rename_i hg
 have hr:vr a=true∧vr b=true:=by
  rcases Decidable.not_not.1 hg with ⟨_,_,h1,h2⟩
  exact ⟨h1,h2⟩
 have va':=(z3u a).1 hr.1
 have vb':=(z3u b).1 hr.2
 split
 ·unfold truR
  repeat' split
  all_goals first|exact ok_of _|exact z4q _
 split
 ·exact z4q 0
 split
 ·unfold intsR
  repeat' split
  all_goals first|exact ok_whole _ _|exact ok_cmp _ _
 obtain ⟨ak,an,am,ab⟩:=a
 obtain ⟨bk,bn,bm,bb⟩:=b
 simp only [vok] at va' vb'
 split
 ·rename_i hn
  simp only [isn] at hn
  have sa:0≤am∧am≤6:=by omega
  have sb:0≤bm∧bm≤6:=by omega
  unfold numsR
  have g1:0≤gsc am bm∧gsc am bm≤6:=by unfold gsc;split <;> omega
  have g2:0≤psc am bm∧psc am bm≤6:=by unfold psc;split <;> omega
  repeat' split
  all_goals first|exact ok_dec _ _ g1|exact ok_dec _ _ g2|exact ok_dec _ _ ⟨by decide,by decide⟩|exact z4q _|exact ok_cmp _ _
 split
 ·rename_i h5
  simp only at h5
  have pa:(-1048576≤an∧an≤1048576)∧(-1048576≤am∧am≤1048576):=by omega
  have pb:(-1048576≤bn∧bn≤1048576)∧(-1048576≤bm∧bm≤1048576):=by omega
  have q1:¬ (bn=0∧bm=0)→okR (vP (Ga.qX an am bn bm) (Ga.qY an am bn bm),0):=fun hz=>by
   have:=Ga.quo_ok an am bn bm pa.1 pa.2 (Ga.norm_pos hz)
   exact ok_pt _ _ ((Ga.ok2_iff _ _).2 ⟨this.1.1,this.1.2,this.2.1,this.2.2⟩)
  have q2:¬ (bn=0∧bm=0)→okR (vP (Ga.rX an am bn bm) (Ga.rY an am bn bm),0):=fun hz=>by
   have:=Ga.rest_ok an am bn bm pb.1 pb.2 (Ga.norm_pos hz)
   exact ok_pt _ _ ((Ga.ok2_iff _ _).2 ⟨this.1.1,this.1.2,this.2.1,this.2.2⟩)
  unfold ptsR
  simp only
  by_cases hz:bn=0∧bm=0
  ·rw [if_pos hz,if_pos hz]
   repeat' split
   all_goals first|exact ok_ptR _ _|exact z4q _|exact ok_cmp _ _
  ·rw [if_neg hz,if_neg hz]
   repeat' split
   all_goals first|exact ok_ptR _ _|exact q1 hz|exact q2 hz|exact ok_cmp _ _
 split
 ·rename_i h3
  simp only at h3
  unfold txtR
  simp only
  split
  ·split
   ·exact z4q 32
   ·rename_i ho
    refine ⟨vr_of ?_,.inl rfl⟩
    have ga:Lib.validD ab=true:=by rcases va' with h|h|h|h|h|h <;> first|omega|exact h.2.2.2.2
    have gb:Lib.validD bb=true:=by rcases vb' with h|h|h|h|h|h <;> first|omega|exact h.2.2.2.2
    have:=validD_append ab.length ab bb (Nat.le_refl _) ga gb
    simp [vok,vT,this]
    omega
  ·exact ok_cmp _ _
 split
 ·exact ok_cmp _ _
 ·exact z4q 31
theorem ok_un (op:Int) (a:Va):okR (unR op a):=by
 unfold unR
 split
 ·exact z4q 1
 rename_i hg
 have hr:vr a=true:=(Decidable.not_not.1 hg).2.2
 have va':=(z3u a).1 hr
 split
 ·exact ok_bool _
 split
 ·unfold notR
  split
  ·exact ok_of _
  ·exact z4q _
 obtain ⟨ak,an,am,ab⟩:=a
 simp only [vok] at va'
 unfold negR
 simp only
 split
 ·exact z4q 0
 split
 ·exact ok_whole _ _
 split
 ·exact ok_dec _ _ (by omega)
 split
 ·exact ok_pt _ _ ((Ga.ok2_iff _ _).2 (by omega))
 ·exact z4q 31
end Go.Proofs.YtljkonkfeiojnaaGreatDoor

namespace Go.Proofs.YtljkonkfeiojnaaGreatDoor
open Go.RowKit Go.Shelf
attribute [local go_sem] z0f z0b z0c z0e z0m z0k z0h z0d z0g
def ptAtR (x y:Int):Va × Int:=if Ga.ok2 x y=true then (vP x y,0) else (nul,32)
theorem qpointAt_any (x y:Int) (w:World):Calls Tryz.prog 148 #[dv x y] w fun e w'=>e=.returned (rs (ptAtR x y))∧Grew w w':=by
 have R:=fun W=>Ga.right_any x y W
 have H:=fun W=>z7h x y 0 W
 unfold ptAtR
 cases h:Ga.ok2 x y
 ·rw [h] at R
  rw [if_neg (by simp)]
  clear h H
  go_enter Tryz.func148,Tryz.ntmps148
  go_wp2_with (go_at_call 48;refine (R _).mono ?_;rintro e w1 ⟨rfl,os1,n1,rfl⟩)
  refine bodyPost_ret_by (v:=rs (nul,32)) ?_ rfl ⟨rfl,gB⟩
  simp [results,Tryz.results148,go_sem,nul]
 ·rw [h] at R
  rw [if_pos rfl]
  clear h
  go_enter Tryz.func148,Tryz.ntmps148
  go_wp2_with (first
   | (go_at_call 48;refine (R _).mono ?_;rintro e w1 ⟨rfl,os1,n1,rfl⟩)
   | (go_at_call 154;refine (H _).mono ?_;rintro e w1 ⟨rfl,os2,n2,rfl⟩))
  refine bodyPost_ret_by (v:=rs (vP x y,0)) ?_ rfl ⟨rfl,gB⟩
  simp [results,Tryz.results148,go_sem,z0z]
def rndR (u s t:Int):Va × Int:=if z0u t=true then z5g (rU u s t) (rS u s t) (rE u s t) else (nul,32)
theorem qrounded_any (u s t:Int) (w:World) (hP:Pw w) (u0:-9223372036854775808≤u) (u1:u≤9223372036854775807):Calls Tryz.prog 149 #[dv u s,.int .i64 t] w fun e w'=>e=.returned (rs (rndR u s t))∧Grew w w':=by
 have R:=fun W=>right_any 0 t W
 have C:∀ W,Grew w W→_:=fun W (h:Grew w W)=>rescale_any u s t W (hP.later h) u0 u1
 have H:=fun W=>z3x (rU u s t) (rS u s t) (rE u s t) W
 clear hP u0 u1
 unfold rndR
 cases h:z0u t
 ·rw [h] at R
  rw [if_neg (by simp)]
  clear h H C
  go_enter Tryz.func149,Tryz.ntmps149
  go_wp2_with (go_at_call 69;refine (R _).mono ?_;rintro e w1 ⟨rfl,os1,n1,rfl⟩)
  refine bodyPost_ret_by (v:=rs (nul,32)) ?_ rfl ⟨rfl,gB⟩
  simp [results,Tryz.results149,go_sem,nul]
 ·rw [h] at R
  rw [if_pos rfl]
  clear h
  go_enter Tryz.func149,Tryz.ntmps149
  go_wp2_with (first
   | (go_at_call 69;refine (R _).mono ?_;rintro e w1 ⟨rfl,os1,n1,rfl⟩)
   | (go_at_call 57;refine (C _ gB).mono ?_;rintro e w1 ⟨rfl,os2,n2,rfl⟩)
   | (go_at_call 152;refine (H _).mono ?_;rintro e w1 ⟨rfl,os3,n3,rfl⟩))
  refine bodyPost_ret_by (v:=rs (z5g (rU u s t) (rS u s t) (rE u s t))) ?_ rfl ⟨rfl,gB⟩
  simp [results,Tryz.results149,go_sem]
def sLength:List UInt8:=[108,101,110,103,116,104]
def sAbs:List UInt8:=[97,98,115]
def sNorm:List UInt8:=[110,111,114,109]
def sPx:List UInt8:=[112,120]
def sPy:List UInt8:=[112,121]
def sPoint:List UInt8:=[112,111,105,110,116]
def sRound:List UInt8:=[114,111,117,110,100]
def z7y:List UInt8:=[99,111,97,108,101,115,99,101]
def isF (nm:List UInt8) (n:Nat):Bool :=
 if nm=sLength∨nm=sAbs∨nm=sNorm∨nm=sPx∨nm=sPy then n==1 else if nm=sPoint∨nm=sRound then n==2 else if nm=z7y then decide (1≤n∧n≤4) else false
theorem isf_length (c:Int) (w:World):Calls Tryz.prog 110 #[.string ⟨#[108,101,110,103,116,104]⟩,.int .i64 c] w fun e w'=>e=.returned (.bool (c==1))∧w=w':=by
 go_enter Tryz.func110,Tryz.ntmps110
 go_wp2
 all_goals go_ret
 all_goals exact ⟨rfl,rfl⟩
theorem isf_abs (c:Int) (w:World):Calls Tryz.prog 110 #[.string ⟨#[97,98,115]⟩,.int .i64 c] w fun e w'=>e=.returned (.bool (c==1))∧w=w':=by
 go_enter Tryz.func110,Tryz.ntmps110
 go_wp2
 all_goals go_ret
 all_goals exact ⟨rfl,rfl⟩
theorem isf_norm (c:Int) (w:World):Calls Tryz.prog 110 #[.string ⟨#[110,111,114,109]⟩,.int .i64 c] w fun e w'=>e=.returned (.bool (c==1))∧w=w':=by
 go_enter Tryz.func110,Tryz.ntmps110
 go_wp2
 all_goals go_ret
 all_goals exact ⟨rfl,rfl⟩
theorem isf_px (c:Int) (w:World):Calls Tryz.prog 110 #[.string ⟨#[112,120]⟩,.int .i64 c] w fun e w'=>e=.returned (.bool (c==1))∧w=w':=by
 go_enter Tryz.func110,Tryz.ntmps110
 go_wp2
 all_goals go_ret
 all_goals exact ⟨rfl,rfl⟩
theorem isf_py (c:Int) (w:World):Calls Tryz.prog 110 #[.string ⟨#[112,121]⟩,.int .i64 c] w fun e w'=>e=.returned (.bool (c==1))∧w=w':=by
 go_enter Tryz.func110,Tryz.ntmps110
 go_wp2
 all_goals go_ret
 all_goals exact ⟨rfl,rfl⟩
theorem isf_point (c:Int) (w:World):Calls Tryz.prog 110 #[.string ⟨#[112,111,105,110,116]⟩,.int .i64 c] w fun e w'=>e=.returned (.bool (c==2))∧w=w':=by
 go_enter Tryz.func110,Tryz.ntmps110
 go_wp2
 all_goals go_ret
 all_goals exact ⟨rfl,rfl⟩
theorem isf_round (c:Int) (w:World):Calls Tryz.prog 110 #[.string ⟨#[114,111,117,110,100]⟩,.int .i64 c] w fun e w'=>e=.returned (.bool (c==2))∧w=w':=by
 go_enter Tryz.func110,Tryz.ntmps110
 go_wp2
 all_goals go_ret
 all_goals exact ⟨rfl,rfl⟩
theorem isf_coal_lo (c:Int) (w:World) (h:¬ (1:Int)≤c):Calls Tryz.prog 110 #[.string ⟨#[99,111,97,108,101,115,99,101]⟩,.int .i64 c] w fun e w'=>e=.returned (.bool false)∧w=w':=by
 go_enter Tryz.func110,Tryz.ntmps110
 go_wp2
 all_goals go_ret
 all_goals exact ⟨rfl,rfl⟩
theorem isf_coal_hi (c:Int) (w:World) (h0:(1:Int)≤c) (h:¬ c≤4):Calls Tryz.prog 110 #[.string ⟨#[99,111,97,108,101,115,99,101]⟩,.int .i64 c] w fun e w'=>e=.returned (.bool false)∧w=w':=by
 go_enter Tryz.func110,Tryz.ntmps110
 go_wp2
 all_goals go_ret
 all_goals exact ⟨rfl,rfl⟩
theorem isf_coal_ok (c:Int) (w:World) (h0:(1:Int)≤c) (h:c≤4):Calls Tryz.prog 110 #[.string ⟨#[99,111,97,108,101,115,99,101]⟩,.int .i64 c] w fun e w'=>e=.returned (.bool true)∧w=w':=by
 go_enter Tryz.func110,Tryz.ntmps110
 go_wp2
 all_goals go_ret
 all_goals exact ⟨rfl,rfl⟩
theorem isf_other (B:ByteArray) (c:Int) (w:World) (e0:(B.toList==[108,101,110,103,116,104])=false) (e1:(B.toList==[97,98,115])=false) (e2:(B.toList==[110,111,114,109])=false) (e3:(B.toList==[112,120])=false) (e4:(B.toList==[112,121])=false) (e5:(B.toList==[112,111,105,110,116])=false) (e6:(B.toList==[114,111,117,110,100])=false) (e7:(B.toList==[99,111,97,108,101,115,99,101])=false):Calls Tryz.prog 110 #[.string B,.int .i64 c] w fun e w'=>e=.returned (.bool false)∧w=w':=by
 go_enter Tryz.func110,Tryz.ntmps110
 go_wp2
 all_goals go_ret
 all_goals exact ⟨rfl,rfl⟩
end Go.Proofs.YtljkonkfeiojnaaGreatDoor

namespace Go.Proofs.YtljkonkfeiojnaaGreatDoor
open Go.RowKit Go.Shelf
attribute [local go_sem] z0f z0b z0c z0e z0m z0k z0h z0d z0g z2n z1u z3k z1v z2m z2q z3h z2p z3g z2d z2r
theorem qapart_any (k n m:Int) (B:ByteArray) (w:World) (hB:B.size≤140737488351232):Calls Tryz.prog 62 #[va k n m B] w fun e w'=>e=.returned (va k n m B)∧Below w.heap.size w w':=by
 have C:=fun W=>z4a B W hB
 clear hB
 go_enter Tryz.func62,Tryz.ntmps62
 go_wp2_with (go_at_call 35;refine (C _).mono ?_;rintro e wc ⟨rfl,bc⟩;obtain ⟨osc,dc,rfl⟩:=wide bc;clear bc)
 refine bodyPost_ret_by (v:=va k n m B) ?_ rfl ⟨rfl,z1z.below gC⟩
 simp [results,Tryz.results62,go_sem]
def z7f:List Va→Va
 | []=>nul
 | x::l=>if (x.k==0)=true then z7f l else x
theorem qfirst_any (ao:Option Addr) (cap:Nat) (l:List Va) (w:World) (hv:Vs w ao l) (hl:l.length≤9223372036854775807) (hb:∀ x∈l,x.b.length≤140737488351232) :
  Calls Tryz.prog 111 #[.slice ao l.length cap] w fun e w'=>e=.returned (vv (z7f l))∧Below w.heap.size w w':=by
 obtain ⟨E,hE⟩:∃ E,E=z7f l:=⟨_,rfl⟩
 rw [← hE]
 have HE:Hid (E=z7f (l.drop 0)):=hE
 obtain ⟨n,hn⟩:∃ n,l.length=n:=⟨_,rfl⟩
 rw [hn] at hl ⊢
 have HN:Hid (l.length=n):=hn
 clear hE hn
 obtain ⟨w0,hw0,bxr,Bw⟩:=z6s w
 go_enter Tryz.func111,Tryz.ntmps111
 go_upto_region 1 with fail
 rw [← hw0]
 clear hw0
 go_wp2
 replace hv:=hv.later Bw
 go_loopw [7] (fun r wr=>∃ k:Nat,r=.int .i64 (k:Int)∧k≤n∧Below w0.heap.size w0 wr∧Hid (E=z7f (l.drop k))) (fun r _=>n - (intOf r).toNat)
 case atStart=>exact ⟨0,rfl,Nat.zero_le _,Below.refl _ _,HE⟩
 case round =>
  obtain ⟨k,rfl,hk,hB,hA⟩:=hrel
  have sB:=hB.size
  have br:=bxr.later hB
  obtain ⟨r0,r1,r2,r3⟩:=br.at4
  dsimp only [nul] at r0 r1 r2 r3
  simp only [Nat.zero_add] at r1 r2 r3
  have f0:=br.free 0
  have f1:=br.free 1
  have f2:=br.free 2
  have f3:=br.free 3
  have lt1:=br.lt
  have Be:=z0a Bw hB
  by_cases hlt:k<n
  ·have hlt':(k:Int)<(n:Int):=by omega
   have hkl:k<l.length:=by rw [HN.out];exact hlt
   obtain ⟨b,off,rfl,hc⟩:=hv (by omega)
   obtain ⟨c0,c1,c2,c3⟩:=((hc k (by omega)).later hB)
   have hg:=(hc k (by omega)).lt
   have hg':b<wr.heap.size:=by omega
   have hdr:l.drop k=l[k]::l.drop (k+1):=List.drop_eq_getElem_cons hkl
   have hlen:=hb l[k] (List.getElem_mem _)
   obtain ⟨⟨vk,vn,vm,vb⟩,he⟩:∃ v:Va,v=l[k]:=⟨_,rfl⟩
   rw [← he] at c0 c1 c2 c3 hdr hlen
   have HST:Hid (E=z7f (⟨vk,vn,vm,vb⟩::l.drop (k+1))):=by
    show E=_
    rw [hA.out,hdr]
   have A:=fun W=>qapart_any vk vn vm ⟨vb.toArray⟩ W (by show vb.toArray.size≤_;simpa using hlen)
   clear hc he hdr hA hlen br bxr HE
   by_cases hz:vk=0
   ·subst hz
    go_wp2
    go_roundw
    case rel=>exact ⟨k+1,by go_num,by omega,z0a hB (Grew.below gB),HST.out⟩
    case measure=>simp [intOf];omega
   ·have hz':(vk != 0)=true:=by simpa using hz
    have hE':E=⟨vk,vn,vm,vb⟩:=by
     have:=HST.out
     rw [z7f,if_neg (by simpa using hz)] at this
     exact this
    subst hE'
    clear HST
    go_wp2_with (go_at_call 62;refine (A _).mono ?_;rintro e wc ⟨rfl,bc⟩;obtain ⟨osc,dc,rfl⟩:=wide bc;clear bc)
    refine bodyPost_ret_by (v:=va vk vn vm ⟨vb.toArray⟩) ?_ rfl ⟨rfl,?_⟩
    ·simp [results,Tryz.results111,go_sem,r0,r1,r2,r3,lt1]
    ·refine z0a (Be.setCell (p:=⟨w.heap.size,0,none⟩) (Nat.le_refl _) (.int .i64 vk) |>.setCell (p:=⟨w.heap.size,1,none⟩) (Nat.le_refl _) (.int .i64 vn) |>.setCell (p:=⟨w.heap.size,2,none⟩) (Nat.le_refl _) (.int .i64 vm) |>.setCell (p:=⟨w.heap.size,3,none⟩) (Nat.le_refl _) (.string ⟨vb.toArray⟩)) (z1z.below ?_)
     repeat exact gC
  ·have hlt':¬ (k:Int)<(n:Int):=by omega
   have hE':E=nul:=by
    rw [hA.out,List.drop_eq_nil_of_le (by rw [HN.out];omega)];rfl
   subst hE'
   clear hA HE
   go_wp2
   refine bodyPost_ret_by (v:=vv nul) ?_ rfl ⟨rfl,(Be.setCell (p:=⟨w.heap.size,0,none⟩) (Nat.le_refl _) _ |>.setCell (p:=⟨w.heap.size,1,none⟩) (Nat.le_refl _) _ |>.setCell (p:=⟨w.heap.size,2,none⟩) (Nat.le_refl _) _ |>.setCell (p:=⟨w.heap.size,3,none⟩) (Nat.le_refl _) _)⟩
   simp [results,Tryz.results111,go_sem,r0,r1,r2,r3,nul]
theorem qsize_walk (ak an am:Int) (ab:List UInt8) (bk bn bm be:Int) (bb:List UInt8) (c:Int) (w:World) (U:z0s 83 #[.int .i64 3,va ak an am ⟨ab.toArray⟩] w (.tuple #[va bk bn bm ⟨bb.toArray⟩,.int .i64 be]))
  (C:be=0→∀ W,Below w.heap.size w W→Calls Tryz.prog 166 #[dv an am,dv bn bm] W fun e w'=>e=.returned (.int .i64 c)∧Grew W w') (r:Va × Int) (hr:Hid (r=if be=0 then (if c<0 then (⟨bk,bn,bm,bb⟩,0) else (⟨ak,an,am,ab⟩,0)) else (nul,be))) :
  Calls Tryz.prog 145 #[va ak an am ⟨ab.toArray⟩] w fun e w'=>e=.returned (rs r)∧Below w.heap.size w w':=by
 obtain ⟨w0,hw0,bxa,bxr,G⟩:=z4d w ⟨ak,an,am,ab⟩
 dsimp only at hw0
 have UU:=fun k n m b W=>z3y k n m b W
 replace U:=U.later G
 have ha:=bxa.at4
 have C':Hid (be=0→∀ W,Below w0.heap.size w0 W→Calls Tryz.prog 166 #[dv an am,dv bn bm] W fun e w'=>e=.returned (.int .i64 c)∧Grew W w'):=fun h W hW=>C h W (z0a G hW)
 clear C
 go_enter Tryz.func145,Tryz.ntmps145
 go_upto_region 1 with fail
 rw [← hw0]
 clear hw0
 obtain ⟨k0a,k0b,k0c,k0d⟩:=id ha
 have k0l:=ha.lt
 simp only [Nat.zero_add] at k0b k0c k0d
 go_cut [4,5] from 6 (fun s0 s1 wx=>∃ p:Nat,s0=.pointer (some ⟨p,0,none⟩)∧s1=.int .i64 be∧At4 wx p 0 ⟨bk,bn,bm,bb⟩∧Below w0.heap.size w0 wx)
 case first =>
  clear UU C' hr
  go_wp2_with (first
   | (go_at_call 83;refine (U _ (z1z.below gC)).mono ?_;rintro e wc ⟨rfl,bc⟩;obtain ⟨osc,dc,rfl⟩:=wide bc;clear bc))
  all_goals go_meet
  all_goals exact ⟨_,rfl,rfl,⟨gD,gD,gD,gD⟩,z1z.below gC⟩
 rename World=>v1
 obtain ⟨p1,rfl,rfl,hp1,gv1⟩:=hcut
 clear k0a k0b k0c k0d k0l
 replace ha:=ha.later gv1
 replace U:=U.later gv1
 have br:=bxr.later gv1
 have C1:Hid (be=0→∀ W,Grew v1 W→Calls Tryz.prog 166 #[dv an am,dv bn bm] W fun e w'=>e=.returned (.int .i64 c)∧Grew W w'):=fun h W hW=>C'.out h W (z0a gv1 hW.below)
 replace G:=z0a G gv1
 clear gv1 C' U bxa bxr
 obtain ⟨r0,r1,r2,r3⟩:=br.at4
 dsimp only [nul] at r0 r1 r2 r3
 simp only [Nat.zero_add] at r1 r2 r3
 have f0:=br.free 0
 have f1:=br.free 1
 have f2:=br.free 2
 have f3:=br.free 3
 have lt1:=br.lt
 obtain ⟨A0,A1,A2,A3⟩:=id ha
 have Al:=ha.lt
 obtain ⟨B0,B1,B2,B3⟩:=id hp1
 have Bl:=hp1.lt
 dsimp only at A0 A1 A2 A3 B0 B1 B2 B3
 simp only [Nat.zero_add] at A1 A2 A3 B1 B2 B3
 clear br ha hp1
 by_cases hz:be=0
 ·subst hz
  have C:=C1.out rfl
  have hr':=hr.out
  rw [if_pos rfl] at hr'
  clear C1 hr
  by_cases hc:c<0
  ·rw [if_pos hc] at hr'
   subst hr'
   go_wp2_with fail
   go_region_held2 (fun W=>W.cell? ⟨w.heap.size,0,none⟩=some (.int .i64 ak)∧W.cell? ⟨w.heap.size,1,none⟩=some (.int .i64 an)∧W.cell? ⟨w.heap.size,2,none⟩=some (.int .i64 am)∧W.cell? ⟨w.heap.size,3,none⟩=some (.string ⟨ab.toArray⟩) ∧
     W.cell? ⟨p1,0,none⟩=some (.int .i64 bk)∧W.cell? ⟨p1,1,none⟩=some (.int .i64 bn)∧W.cell? ⟨p1,2,none⟩=some (.int .i64 bm)∧W.cell? ⟨p1,3,none⟩=some (.string ⟨bb.toArray⟩)) (simp (maxDischargeDepth:=12) [go_sem,A0,A1,A2,A3,B0,B1,B2,B3,Al,Bl]) (first
    | (go_at_call 121;refine (UU _ _ _ _ _).mono ?_;rintro e wc ⟨rfl,os1,n1,rfl⟩)
    | (go_at_call 166;refine (C _ gB).mono ?_;rintro e wc ⟨rfl,os2,n2,rfl⟩))
   go_wp2
   refine bodyPost_ret_by (v:=rs (⟨bk,bn,bm,bb⟩,0)) ?_ rfl ⟨rfl,?_⟩
   ·simp [results,Tryz.results145,go_sem,r0,r1,r2,r3,lt1]
   ·refine z0a (G.setCell (p:=⟨w.heap.size+1,0,none⟩) (by dsimp only;omega) (.int .i64 bk) |>.setCell (p:=⟨w.heap.size+1,1,none⟩) (by dsimp only;omega) (.int .i64 bn) |>.setCell (p:=⟨w.heap.size+1,2,none⟩) (by dsimp only;omega) (.int .i64 bm) |>.setCell (p:=⟨w.heap.size+1,3,none⟩) (by dsimp only;omega) (.string ⟨bb.toArray⟩)) (Grew.below ?_)
    repeat exact gB
  ·rw [if_neg hc] at hr'
   subst hr'
   go_wp2_with fail
   go_region_held2 (fun W=>W.cell? ⟨w.heap.size,0,none⟩=some (.int .i64 ak)∧W.cell? ⟨w.heap.size,1,none⟩=some (.int .i64 an)∧W.cell? ⟨w.heap.size,2,none⟩=some (.int .i64 am)∧W.cell? ⟨w.heap.size,3,none⟩=some (.string ⟨ab.toArray⟩) ∧
     W.cell? ⟨p1,0,none⟩=some (.int .i64 bk)∧W.cell? ⟨p1,1,none⟩=some (.int .i64 bn)∧W.cell? ⟨p1,2,none⟩=some (.int .i64 bm)∧W.cell? ⟨p1,3,none⟩=some (.string ⟨bb.toArray⟩)) (simp (maxDischargeDepth:=12) [go_sem,A0,A1,A2,A3,B0,B1,B2,B3,Al,Bl]) (first
    | (go_at_call 121;refine (UU _ _ _ _ _).mono ?_;rintro e wc ⟨rfl,os1,n1,rfl⟩)
    | (go_at_call 166;refine (C _ gB).mono ?_;rintro e wc ⟨rfl,os2,n2,rfl⟩))
   go_wp2
   refine bodyPost_ret_by (v:=rs (⟨ak,an,am,ab⟩,0)) ?_ rfl ⟨rfl,?_⟩
   ·simp [results,Tryz.results145,go_sem,r0,r1,r2,r3,lt1]
   ·refine z0a (G.setCell (p:=⟨w.heap.size+1,0,none⟩) (by dsimp only;omega) (.int .i64 ak) |>.setCell (p:=⟨w.heap.size+1,1,none⟩) (by dsimp only;omega) (.int .i64 an) |>.setCell (p:=⟨w.heap.size+1,2,none⟩) (by dsimp only;omega) (.int .i64 am) |>.setCell (p:=⟨w.heap.size+1,3,none⟩) (by dsimp only;omega) (.string ⟨ab.toArray⟩)) (Grew.below ?_)
    repeat exact gB
 ·have hr':=hr.out
  rw [if_neg hz] at hr'
  subst hr'
  have hz':(be != 0)=true:=by simpa using hz
  clear C1 hr
  go_wp2
  refine bodyPost_ret_by (v:=rs (nul,be)) ?_ rfl ⟨rfl,?_⟩
  ·simp [results,Tryz.results145,go_sem,r0,r1,r2,r3,nul]
  ·refine z0a (G.setCell (p:=⟨w.heap.size+1,0,none⟩) (by dsimp only;omega) (.int .i64 0) |>.setCell (p:=⟨w.heap.size+1,1,none⟩) (by dsimp only;omega) (.int .i64 0) |>.setCell (p:=⟨w.heap.size+1,2,none⟩) (by dsimp only;omega) (.int .i64 0) |>.setCell (p:=⟨w.heap.size+1,3,none⟩) (by dsimp only;omega) (.string ⟨#[]⟩)) (Grew.below ?_)
   repeat exact gB
end Go.Proofs.YtljkonkfeiojnaaGreatDoor
