/-
  Holds of both sides; the document's right.
  The contract of eval.Eval.
  The contract of eval.Eval, whole.
  The contract of longstoplaw07.Scope.
-/
import Derived.Test.YtibbenhplmmmiaaGreatDoorMFXApp
import Derived.Test.YtibbenhplmmmiaaGreatDoorMDQFun2
import Derived.Test.YtibbenhplmmmiaaGreatDoorMvVOrd1
import Derived.Test.YtibbenhplmmmiaaGreatDoorMyXROp
set_option maxHeartbeats 4000000
set_option maxRecDepth 20000
namespace Go.Proofs.YtibbenhplmmmiaaGreatDoor
open Go.RowKit Go.Shelf
attribute [local go_sem] z0e z0b z0c z0f z0m z0k z0h z0d z0g
attribute [local go_sem high] eqVb
def hoOx0:Oper:=⟨some 29,.load 23 (.tmp 8),23, "eval.go:63",#[],none⟩
def hoOx1:Oper:=⟨some 30,.call { callee:=Callee.value (Operand.func 70),args:=#[Operand.const (Value.bool true)],argTypes:=#[4] },23, "eval.go:63",#[],none⟩
def hoOx2:Oper:=⟨some 31,.binOp .eql 23 (.tmp 29) (.tmp 30) 23,4, "eval.go:63",#[⟨0,.data⟩,⟨1,.data⟩],none⟩
def hoOx3:Oper:=⟨some 6,.assign (.tmp 31),4, "eval.go:63",#[⟨2,.data⟩,⟨1,.chain⟩,⟨0,.phase⟩,⟨1,.phase⟩,⟨2,.phase⟩],none⟩
def hoOx4:Oper:=⟨some 7,.assign (.const (Value.int IntKind.i64 0)),24, "eval.go:63",#[⟨3,.chain⟩,⟨0,.phase⟩,⟨1,.phase⟩,⟨2,.phase⟩,⟨3,.phase⟩],none⟩
def hldR (r:Va × Int):Bool × Int:=if r.2=0 then (if tB r.1=true then (decide (tN r.1=1),0) else (false,31)) else (false,r.2)
theorem tru_one (v:Va) (h:tB v=true):eqv v.k v.n v.m ⟨v.b.toArray⟩ 4 1 0 ⟨#[]⟩=decide (tN v=1):=by
 obtain ⟨t1,t2,t3,t4⟩:=tru_cases v.k v.n v.m ⟨v.b.toArray⟩
 unfold tB at h
 unfold tN
 cases h1:eqv v.k v.n v.m ⟨v.b.toArray⟩ 4 1 0 ⟨#[]⟩ with
 | true=>rw [(t2 h1).1];rfl
 | false =>
  cases h0:eqv v.k v.n v.m ⟨v.b.toArray⟩ 0 0 0 ⟨#[]⟩ with
  | true=>rw [(t1 h0).1];rfl
  | false =>
   cases h2:eqv v.k v.n v.m ⟨v.b.toArray⟩ 4 0 0 ⟨#[]⟩ with
   | true=>rw [(t3 h2).1];rfl
   | false=>rw [(t4 h0 h1 h2).2] at h;cases h
theorem hold_any (lo ta na ro:Option Addr) (lc tc nc rc n p q m:Nat) (w:World) (r:Va × Int) (EV:z0n 24 #[.slice lo n lc,scv ta na p q tc nc,.slice ro m rc] w (rs r)) :
  Calls Tryz.prog 26 #[.slice lo n lc,scv ta na p q tc nc,.slice ro m rc] w fun e w'=>e=.returned (.tuple #[.bool (hldR r).1,.int .i64 (hldR r).2])∧Below w.heap.size w w':=by
 have BS0:=Cbox.new w #[.slice ta p tc,.slice na q nc] 50
 have B00:Below w.heap.size w (w.alloc (.cells #[.slice ta p tc,.slice na q nc] 50)):=(Below.refl _ w).alloc (Nat.le_refl _) _
 obtain ⟨⟨rk,rn,rm,rb⟩,re⟩:=r
 have E1:=EV _ B00
 unfold hldR
 dsimp only
 have TR:=fun W=>z7x rk rn rm ⟨rb.toArray⟩ W
 by_cases hre:re=0
 case neg =>
  rw [if_neg hre]
  have hre':¬ re=0:=hre
  clear TR hre
  go_enter Tryz.func26,Tryz.ntmps26
  go_upto_region 1 with fail
  generalize w.alloc (.cells #[.slice ta p tc,.slice na q nc] 50)=w0 at *
  have s0:=BS0.at 0
  have s1:=BS0.at 1
  have sl:=BS0.lt
  go_wp2_with fail
  refine E1.mono ?_
  rintro e w1 ⟨rfl,b1⟩
  have B1:=z0a B00 b1
  have BV:=Box.new w1 rk rn rm rb
  have B2:Below w.heap.size w (w1.alloc (.cells #[.int .i64 rk,.int .i64 rn,.int .i64 rm,.string ⟨rb.toArray⟩] 23)):=B1.alloc B1.size _
  clear s0 s1 sl E1 EV BS0
  go_wp2
  refine bodyPost_ret_by (v:=.tuple #[.bool false,.int .i64 re]) ?_ rfl ⟨rfl,B2⟩
  simp [results,Tryz.results26,go_sem]
 subst hre
 rw [if_pos rfl]
 cases ht:tB ⟨rk,rn,rm,rb⟩ with
 | false =>
  rw [if_neg (by simp)]
  unfold tB at ht
  dsimp only at ht
  rw [ht] at TR
  clear ht
  go_enter Tryz.func26,Tryz.ntmps26
  go_upto_region 1 with fail
  generalize w.alloc (.cells #[.slice ta p tc,.slice na q nc] 50)=w0 at *
  have s0:=BS0.at 0
  have s1:=BS0.at 1
  have sl:=BS0.lt
  go_wp2_with fail
  refine E1.mono ?_
  rintro e w1 ⟨rfl,b1⟩
  have B1:=z0a B00 b1
  have BV:=Box.new w1 rk rn rm rb
  have B2:Below w.heap.size w (w1.alloc (.cells #[.int .i64 rk,.int .i64 rn,.int .i64 rm,.string ⟨rb.toArray⟩] 23)):=B1.alloc B1.size _
  clear s0 s1 sl E1 EV BS0
  have e0:=BV.at4.1;have e1:=BV.at4.2.1;have e2:=BV.at4.2.2.1;have e3:=BV.at4.2.2.2;have el:=BV.lt
  dsimp only at e0 e1 e2 e3
  simp only [Nat.zero_add] at e1 e2 e3
  go_wp2_with fail
  refine (TR _).mono ?_
  rintro e w3 ⟨rfl,b3⟩
  go_wp2
  refine bodyPost_ret_by (v:=.tuple #[.bool false,.int .i64 31]) ?_ rfl ⟨rfl,z0a B2 b3.below⟩
  simp [results,Tryz.results26,go_sem]
 | true =>
  rw [if_pos rfl]
  have heq:=tru_one ⟨rk,rn,rm,rb⟩ ht
  unfold tB at ht
  dsimp only at ht heq
  rw [ht] at TR
  dsimp only
  obtain ⟨D,hD⟩:∃ D,decide (tN ⟨rk,rn,rm,rb⟩=1)=D:=⟨_,rfl⟩
  rw [hD] at heq ⊢
  clear hD ht
  have QT:=fun W=>z8v true W
  go_enter Tryz.func26,Tryz.ntmps26
  go_upto_region 1 with fail
  generalize w.alloc (.cells #[.slice ta p tc,.slice na q nc] 50)=w0 at *
  have s0:=BS0.at 0
  have s1:=BS0.at 1
  have sl:=BS0.lt
  go_wp2_with fail
  refine E1.mono ?_
  rintro e w1 ⟨rfl,b1⟩
  have B1:=z0a B00 b1
  have BV:=Box.new w1 rk rn rm rb
  have B2:Below w.heap.size w (w1.alloc (.cells #[.int .i64 rk,.int .i64 rn,.int .i64 rm,.string ⟨rb.toArray⟩] 23)):=B1.alloc B1.size _
  clear s0 s1 sl E1 EV BS0
  have e0:=BV.at4.1;have e1:=BV.at4.2.1;have e2:=BV.at4.2.2.1;have e3:=BV.at4.2.2.2;have el:=BV.lt
  dsimp only at e0 e1 e2 e3
  simp only [Nat.zero_add] at e1 e2 e3
  go_wp2_with fail
  refine (TR _).mono ?_
  rintro e w3 ⟨rfl,b3⟩
  have B3:Hid (Below w.heap.size w w3):=z0a B2 b3.below
  have HB3:Hid (Box w3 w1.heap.size ⟨rk,rn,rm,rb⟩):=BV.later b3.below
  clear e0 e1 e2 e3 el BV
  go_upto_region 7 with fail
  refine wp_region_held_drew (S:=(fun W=>Below w3.heap.size w3 W)) gK ?_ (fun hHeld=>?_)
  ·((try dsimp only);exact (Below.refl _ _).drew)
  refine wpAnyH_take (i:=0) (oi:=hoOx0) (v:=?_) rfl gK gK gK (fun _ _ _ h=>h) (Or.inl ⟨by rfl,?_⟩) (by assumption) ?_
  rotate_left
  ·(intro W hSw;(try dsimp only at hSw);have C:=HB3.out.later hSw;have e0:=C.at4.1;have e1:=C.at4.2.1;have e2:=C.at4.2.2.1;have e3:=C.at4.2.2.2;have el:=C.lt;dsimp only at e0 e1 e2 e3;simp only [Nat.zero_add] at e1 e2 e3;clear C;try simp only [hoOx0];first|(go_simp;done)|(go_simp;with_reducible rfl))
  try simp only [hoOx0,Act.put,List.setIfInBounds_toArray,List.set_cons_zero,List.set_cons_succ]
  refine wpAnyH_ready (rs:=[1]) gK (by simp) ?_
  refine AllReadyH.cons (o:=hoOx1) rfl (fun K hK=>?_) AllReadyH.nil
  try simp only [hoOx1]
  go_simp
  go_wp2_with fail
  have hH2:Below w3.heap.size w3 _:=hHeld
  refine (QT _).mono ?_
  rintro e w4 ⟨rfl,b4⟩
  have hb4:Below w3.heap.size w3 w4:=z0a hH2 b4.below
  clear hH2
  refine hK.out _ _ ?_ (fun hHeld=>?_)
  ·((try dsimp only);exact hb4)
  clear hK K
  try simp only [Act.put,List.setIfInBounds_toArray,List.set_cons_zero,List.set_cons_succ]
  refine wpAnyH_take (i:=2) (oi:=hoOx2) (v:=?_) rfl gK gK gK (fun _ _ _ h=>h) (Or.inl ⟨by rfl,?_⟩) (by assumption) ?_
  rotate_left
  ·(intro W hSw;(try dsimp only at hSw);try simp only [hoOx2];first|(go_simp;done)|(go_simp;with_reducible rfl))
  try simp only [hoOx2,Act.put,List.setIfInBounds_toArray,List.set_cons_zero,List.set_cons_succ]
  refine wpAnyH_take (i:=3) (oi:=hoOx3) (v:=?_) rfl gK gK gK (fun _ _ _ h=>h) (Or.inl ⟨by rfl,?_⟩) (by assumption) ?_
  rotate_left
  ·(intro W hSw;(try dsimp only at hSw);try simp only [hoOx3];first|(go_simp;done)|(go_simp;with_reducible rfl))
  try simp only [hoOx3,Act.put,List.setIfInBounds_toArray,List.set_cons_zero,List.set_cons_succ]
  refine wpAnyH_take (i:=4) (oi:=hoOx4) (v:=?_) rfl gK gK gK (fun _ _ _ h=>h) (Or.inl ⟨by rfl,?_⟩) (by assumption) ?_
  rotate_left
  ·(intro W hSw;(try dsimp only at hSw);try simp only [hoOx4];first|(go_simp;done)|(go_simp;with_reducible rfl))
  try simp only [hoOx4,Act.put,List.setIfInBounds_toArray,List.set_cons_zero,List.set_cons_succ]
  refine wpAnyH_done gK ?_ _
  go_wp2
  refine bodyPost_ret_by (v:=.tuple #[.bool D,.int .i64 0]) ?_ rfl ⟨rfl,z0a B3.out hb4⟩
  simp [results,Tryz.results26,go_sem]
  exact heq
theorem rhold_any (lo ta na ro:Option Addr) (lc tc nc rc n p q m:Nat) (w:World) (r:Va × Int) (EV:z0n 25 #[.slice lo n lc,scv ta na p q tc nc,.slice ro m rc] w (rs r)) :
  Calls Tryz.prog 27 #[.slice lo n lc,scv ta na p q tc nc,.slice ro m rc] w fun e w'=>e=.returned (.tuple #[.bool (hldR r).1,.int .i64 (hldR r).2])∧Below w.heap.size w w':=by
 have BS0:=Cbox.new w #[.slice ta p tc,.slice na q nc] 47
 have B00:Below w.heap.size w (w.alloc (.cells #[.slice ta p tc,.slice na q nc] 47)):=(Below.refl _ w).alloc (Nat.le_refl _) _
 obtain ⟨⟨rk,rn,rm,rb⟩,re⟩:=r
 have E1:=EV _ B00
 unfold hldR
 dsimp only
 have TR:=fun W=>z6t rk rn rm ⟨rb.toArray⟩ W
 by_cases hre:re=0
 case neg =>
  rw [if_neg hre]
  have hre':¬ re=0:=hre
  clear TR hre
  go_enter Tryz.func27,Tryz.ntmps27
  go_upto_region 1 with fail
  generalize w.alloc (.cells #[.slice ta p tc,.slice na q nc] 47)=w0 at *
  have s0:=BS0.at 0
  have s1:=BS0.at 1
  have sl:=BS0.lt
  go_wp2_with fail
  refine E1.mono ?_
  rintro e w1 ⟨rfl,b1⟩
  have B1:=z0a B00 b1
  have BV:=Box.new w1 rk rn rm rb
  have B2:Below w.heap.size w (w1.alloc (.cells #[.int .i64 rk,.int .i64 rn,.int .i64 rm,.string ⟨rb.toArray⟩] 23)):=B1.alloc B1.size _
  clear s0 s1 sl E1 EV BS0
  go_wp2
  refine bodyPost_ret_by (v:=.tuple #[.bool false,.int .i64 re]) ?_ rfl ⟨rfl,B2⟩
  simp [results,Tryz.results27,go_sem]
 subst hre
 rw [if_pos rfl]
 cases ht:tB ⟨rk,rn,rm,rb⟩ with
 | false =>
  rw [if_neg (by simp)]
  unfold tB at ht
  dsimp only at ht
  rw [ht] at TR
  clear ht
  go_enter Tryz.func27,Tryz.ntmps27
  go_upto_region 1 with fail
  generalize w.alloc (.cells #[.slice ta p tc,.slice na q nc] 47)=w0 at *
  have s0:=BS0.at 0
  have s1:=BS0.at 1
  have sl:=BS0.lt
  go_wp2_with fail
  refine E1.mono ?_
  rintro e w1 ⟨rfl,b1⟩
  have B1:=z0a B00 b1
  have BV:=Box.new w1 rk rn rm rb
  have B2:Below w.heap.size w (w1.alloc (.cells #[.int .i64 rk,.int .i64 rn,.int .i64 rm,.string ⟨rb.toArray⟩] 23)):=B1.alloc B1.size _
  clear s0 s1 sl E1 EV BS0
  have e0:=BV.at4.1;have e1:=BV.at4.2.1;have e2:=BV.at4.2.2.1;have e3:=BV.at4.2.2.2;have el:=BV.lt
  dsimp only at e0 e1 e2 e3
  simp only [Nat.zero_add] at e1 e2 e3
  go_wp2_with fail
  refine (TR _).mono ?_
  rintro e w3 ⟨rfl,b3⟩
  go_wp2
  refine bodyPost_ret_by (v:=.tuple #[.bool false,.int .i64 31]) ?_ rfl ⟨rfl,z0a B2 b3⟩
  simp [results,Tryz.results27,go_sem]
 | true =>
  rw [if_pos rfl]
  have heq:=tru_one ⟨rk,rn,rm,rb⟩ ht
  unfold tB at ht
  dsimp only at ht heq
  rw [ht] at TR
  dsimp only
  have hD:tN ⟨rk,rn,rm,rb⟩=truN rk rn rm ⟨rb.toArray⟩:=rfl
  rw [hD]
  clear hD heq ht
  generalize truN rk rn rm ⟨rb.toArray⟩=z at *
  go_enter Tryz.func27,Tryz.ntmps27
  go_upto_region 1 with fail
  generalize w.alloc (.cells #[.slice ta p tc,.slice na q nc] 47)=w0 at *
  have s0:=BS0.at 0
  have s1:=BS0.at 1
  have sl:=BS0.lt
  go_wp2_with fail
  refine E1.mono ?_
  rintro e w1 ⟨rfl,b1⟩
  have B1:=z0a B00 b1
  have BV:=Box.new w1 rk rn rm rb
  have B2:Below w.heap.size w (w1.alloc (.cells #[.int .i64 rk,.int .i64 rn,.int .i64 rm,.string ⟨rb.toArray⟩] 23)):=B1.alloc B1.size _
  clear s0 s1 sl E1 EV BS0
  have e0:=BV.at4.1;have e1:=BV.at4.2.1;have e2:=BV.at4.2.2.1;have e3:=BV.at4.2.2.2;have el:=BV.lt
  dsimp only at e0 e1 e2 e3
  simp only [Nat.zero_add] at e1 e2 e3
  go_wp2_with fail
  refine (TR _).mono ?_
  rintro e w3 ⟨rfl,b3⟩
  go_wp2
  refine bodyPost_ret_by (v:=.tuple #[.bool (decide (z=1)),.int .i64 0]) ?_ rfl ⟨rfl,z0a B2 b3⟩
  first|(simp [results,Tryz.results27,go_sem];done)|(simp [results,Tryz.results27,go_sem];rfl)
theorem rall7_any (ao:Option Addr) (cap:Nat) (l:List Va) (w:World) (hv:Vs w ao l) (hl:l.length≤140737488351232) :
  Calls Tryz.prog 65 #[.slice ao l.length cap] w fun e w'=>e=.returned (.bool (l.all vr))∧Below w.heap.size w w':=by
 obtain ⟨E,hE⟩:∃ E,E=l.all vr:=⟨_,rfl⟩
 rw [← hE]
 have HE:Hid (E=(l.drop 0).all vr):=hE
 obtain ⟨n,hn⟩:∃ n,l.length=n:=⟨_,rfl⟩
 rw [hn] at hl ⊢
 have HN:Hid (l.length=n):=hn
 clear hn hE
 go_enter Tryz.func65,Tryz.ntmps65
 go_wp2
 go_loopw [3] (fun r3 wr=>∃ k:Nat,r3=.int .i64 (k:Int)∧k≤n∧Below w.heap.size w wr∧Hid (E=(l.drop k).all vr)) (fun r _=>n - (intOf r).toNat)
 case atStart=>exact ⟨0,rfl,Nat.zero_le _,Below.refl _ _,HE⟩
 case round =>
  rename World=>wo
  obtain ⟨k,rfl,hk,hb,hH⟩:=hrel
  by_cases hlt:k<n
  ·have hlt':(k:Int)<(n:Int):=by omega
   have k0:(0:Int)≤(k:Int):=by omega
   have hkl:k<l.length:=by rw [HN.out];exact hlt
   obtain ⟨b,off,rfl,hc⟩:=hv (by omega)
   obtain ⟨c0,c1,c2,c3⟩:=(hc k hkl).later hb
   have hg:=((hc k hkl).later hb).lt
   have hdr:l.drop k=l[k]::l.drop (k+1):=List.drop_eq_getElem_cons hkl
   have hst:=hH.out
   rw [hdr,List.all_cons] at hst
   generalize l[k]=v at *
   obtain ⟨vk,vn,vm,vb⟩:=v
   dsimp only at c0 c1 c2 c3
   have RR:∀ W,Calls Tryz.prog 13 #[va vk vn vm ⟨vb.toArray⟩] W fun e w'=>e=.returned (.bool (vr ⟨vk,vn,vm,vb⟩))∧Below W.heap.size W w':=fun W=>rright_any vk vn vm ⟨vb.toArray⟩ W
   cases hr:vr ⟨vk,vn,vm,vb⟩ with
   | true =>
    rw [hr,Bool.true_and] at hst
    rw [hr] at RR
    have HF:Hid (E=(l.drop (k+1)).all vr):=hst
    clear hc hdr hst hH hr HE
    go_wp2_with fail
    refine (RR _).mono ?_
    rintro e w1 ⟨rfl,b1⟩
    clear c0 c1 c2 c3
    go_wp2
    exact ⟨⟨k+1,by rw [cst1],by omega,z0a hb b1,HF⟩,by simp [intOf];omega⟩
   | false =>
    rw [hr,Bool.false_and] at hst
    rw [hr] at RR
    have HF:Hid (E=false):=hst
    clear hc hdr hst hH hr HE
    go_wp2_with fail
    refine (RR _).mono ?_
    rintro e w1 ⟨rfl,b1⟩
    clear c0 c1 c2 c3
    go_wp2
    go_ret
    exact ⟨by rw [HF.out];rfl,z0a hb b1⟩
  ·have hlt':¬ (k:Int)<(n:Int):=by omega
   have HF:Hid (E=true):=by
    have:=hH.out
    rw [List.drop_eq_nil_of_le (by rw [HN.out];omega)] at this
    exact this
   clear hH HE
   go_wp2
   go_ret
   exact ⟨by rw [HF.out];rfl,hb⟩
end Go.Proofs.YtibbenhplmmmiaaGreatDoor

namespace Go.Proofs.YtibbenhplmmmiaaGreatDoor
open Go.RowKit Go.Shelf
attribute [local go_sem] z0e z0b z0c z0f z0m z0k z0h z0d z0g
def evO8x0:Oper:=⟨some 51,.load 99 (.tmp 10),99, "eval.go:45",#[],none⟩
def evO8x1:Oper:=⟨some 52,.move (.tmp 8),34, "eval.go:45",#[],none⟩
def evO8x2:Oper:=⟨some 53,.move (.tmp 11),3, "eval.go:45",#[],none⟩
def evO8x3:Oper:=⟨some 54,.slice 34 (.tmp 52) (some (.tmp 53)) none none,34, "eval.go:45",#[⟨1,.data⟩,⟨2,.data⟩],none⟩
def evO8x4:Oper:=⟨some 55,.load 50 (.tmp 4),50, "eval.go:45",#[],none⟩
def evO8x5:Oper:=⟨some 56,.move (.tmp 2),34, "eval.go:45",#[],none⟩
def z9n:Oper:=⟨some 57,.call { callee:=Callee.value (Operand.func 62),args:=#[.tmp 51,.tmp 54,.tmp 55,.tmp 56],argTypes:=#[99,34,50,34] },25, "eval.go:45",#[⟨0,.data⟩,⟨3,.data⟩,⟨4,.data⟩,⟨5,.data⟩],none⟩
def z5z:Oper:=⟨some 50,.move (.tmp 57),25, "eval.go:45",#[⟨6,.data⟩],none⟩
def z6a:Oper:=⟨some 58,.extract (.tmp 50) 0,23, "eval.go:45",#[⟨7,.data⟩],none⟩
def z5y:Oper:=⟨some 59,.extract (.tmp 50) 1,24, "eval.go:45",#[⟨7,.data⟩,⟨11,.gcOnly .lateStores⟩],none⟩
def z6d:Oper:=⟨some 12,.alloc 23,0, "eval.go:45",#[],none⟩
def z6m:Oper:=⟨none,.store 23 (.tmp 12) (.tmp 58),0, "eval.go:45",#[⟨10,.data⟩,⟨8,.data⟩,⟨6,.chain⟩,⟨0,.phase⟩,⟨1,.phase⟩,⟨2,.phase⟩,⟨3,.phase⟩,⟨4,.phase⟩,⟨5,.phase⟩,⟨6,.phase⟩,⟨7,.phase⟩,⟨8,.phase⟩,⟨9,.textOnly .lateStores⟩,⟨10,.phase⟩],none⟩
def z4c:Oper:=⟨some 13,.assign (.tmp 59),24, "eval.go:45",#[⟨9,.data⟩,⟨11,.chain⟩,⟨0,.phase⟩,⟨1,.phase⟩,⟨2,.phase⟩,⟨3,.phase⟩,⟨4,.phase⟩,⟨5,.phase⟩,⟨6,.phase⟩,⟨7,.phase⟩,⟨8,.phase⟩,⟨9,.phase⟩,⟨10,.phase⟩,⟨11,.phase⟩],none⟩
theorem eval_good (lo ta na ro:Option Addr) (lc tc nc rc:Nat) (l:List Nd) (ts ns:List (List UInt8)) (row:List Va) (w:World) (hv:Nw w lo l) (hs:shN l) (hT:Tabs w) (hPw:Pw w) (ht:Sl w ta ts) (hn:Sl w na ns) (hr:Vs w ro row)
  (hd:0<depN mayN l) (het:ts.length=row.length) (hen:ns.length=row.length) (har:row.all vr=true) (hl:row.length≤140737488351232) (hi6:∀ x∈l,vin x.v) (hir:∀ v∈row,vin v) :
  Calls Tryz.prog 24 #[.slice lo l.length lc,scv ta na ts.length ns.length tc nc,.slice ro row.length rc] w fun e w'=>e=.returned (rs (evL ts ns row l []))∧Below w.heap.size w w':=by
 obtain ⟨i0,hi,hz0,hz1,hz2⟩:=info_parts Tryz.info23
 obtain ⟨hlen,d,hrun⟩:=dep_one hd
 have RI:Hid (∀ W,Below w.heap.size w W→Calls Tryz.prog 59 #[.slice lo l.length lc] W fun e w'=>e=.returned (.bool true)∧Below W.heap.size W w'):=fun W h=>by
  have:=right_of lo lc l W (hv.later h) (by omega) hs (hT.later h)
  rw [decide_eq_true hd] at this
  exact this
 have AR:Hid (∀ W,Below w.heap.size w W→Calls Tryz.prog 60 #[.slice ro row.length rc] W fun e w'=>e=.returned (.bool true)∧Below W.heap.size W w'):=fun W h=>by
  have:=z9v ro rc row W (hT.later h) (hr.later h) (by omega)
  rw [har] at this
  exact this
 have gr:∀ v∈row,gv v:=fun v hv=>⟨List.all_eq_true.1 har v hv,hir v hv⟩
 have gx:Hid (∀ x∈l,mayN x=true→x.o=1→gv x.v):=fun x hx hm ho=>by
  refine ⟨?_,hi6 x hx⟩
  unfold mayN fitN at hm
  rw [Bool.and_eq_true,if_pos ho] at hm
  have:=hm.2
  unfold litV at this
  rw [Bool.and_eq_true] at this
  exact this.1
 have GRW:Hid (∀ v∈row,gv v):=gr
 have HV:Hid (Nw w lo l):=hv
 have HTT:Hid (Tabs w):=hT
 have HPP:Hid (Pw w):=hPw
 have HSt:Hid (Sl w ta ts):=ht
 have HSn:Hid (Sl w na ns):=hn
 have HVr:Hid (Vs w ro row):=hr
 have HEN:Hid (ns.length=row.length):=hen
 obtain ⟨R,hR⟩:∃ R,R=evL ts ns row l []:=⟨_,rfl⟩
 rw [← hR]
 have HR:Hid (evL ts ns row (l.drop 0) []=R):=hR.symm
 have HD:Hid (runD mayN (l.drop 0) []=some [d]):=hrun
 clear hR hrun hv hs hT hPw ht hn hr har hi6 hir gr hd
 obtain ⟨m,hm⟩:∃ m,row.length=m:=⟨_,rfl⟩
 have HMR:Hid (row.length=m):=hm
 have HMT:Hid (ts.length=m):=by show _=_;omega
 have HMN:Hid (ns.length=m):=by show _=_;omega
 rw [het,hen,hm]
 rw [hm] at AR hl
 obtain ⟨n,hnn⟩:∃ n,l.length=n:=⟨_,rfl⟩
 rw [hnn] at hlen RI ⊢
 have HN:Hid (l.length=n):=hnn
 clear hnn hm het hen
 have h1:=Cbox.new w #[.slice ta m tc,.slice na m nc] 50
 have h2:=Box.new (w.alloc (.cells #[.slice ta m tc,.slice na m nc] 50)) 0 0 0 []
 have B00:Below w.heap.size w ((w.alloc (.cells #[.slice ta m tc,.slice na m nc] 50)).alloc (.cells #[.int .i64 0,.int .i64 0,.int .i64 0,.string ⟨#[]⟩] 23)):=((Below.refl _ w).alloc (Nat.le_refl _) _).alloc (by simp) _
 simp only [World.size_alloc] at h2
 have h1':=h1.later ((Below.refl _ _).alloc (Nat.le_refl _) (.cells #[.int .i64 0,.int .i64 0,.int .i64 0,.string ⟨#[]⟩] 23))
 generalize hw0:((w.alloc (.cells #[.slice ta m tc,.slice na m nc] 50)).alloc (.cells #[.int .i64 0,.int .i64 0,.int .i64 0,.string ⟨#[]⟩] 23))=w0 at h1' h2 B00
 clear h1
 go_enter Tryz.func24,Tryz.ntmps24
 go_upto_region 1 with fail
 try rw [hw0]
 clear hw0
 have z0:=h1'.at 0
 have z1:=h1'.at 1
 have zl:=h1'.lt
 have R1:=RI.out w0 B00
 go_wp2_with fail
 refine R1.mono ?_
 rintro e wa ⟨rfl,ba⟩
 have Ba:=z0a B00 ba
 have A2:=AR.out wa Ba
 have c0:=(h1'.later ba).at 0
 have c1:=(h1'.later ba).at 1
 have cl:=(h1'.later ba).lt
 clear z0 z1 zl R1
 go_wp2_with fail
 refine A2.mono ?_
 rintro e w1 ⟨rfl,b1⟩
 have B0:=z0a Ba b1
 have SBX0:=(h1'.later ba).later b1
 have RBX0:=(h2.later ba).later b1
 clear A2 c0 c1 cl RI AR h1' h2 ba b1 Ba B00
 obtain ⟨sb,hsb⟩:∃ sb,w.heap.size=sb:=⟨_,rfl⟩
 have SBX:Hid (Cbox w1 sb #[.slice ta m tc,.slice na m nc] 50):=by rw [← hsb];exact SBX0
 have RBX:Hid (Box w1 (sb+1) nul):=by rw [← hsb];exact RBX0
 have hsbw:w.heap.size≤sb:=by omega
 clear SBX0 RBX0
 rw [hsb]
 clear hsb
 go_wp2
 go_loopw [8,41] (fun r8 r41 wr=>∃ (k:Nat) (st:List Va),r41=.int .i64 (k:Int)∧k≤n∧st.length≤k∧Vk wr w1.heap.size r8 st∧Below w1.heap.size w1 wr∧Hid (evL ts ns row (l.drop k) st=R)∧Hid (∃ ds,ds.length=st.length∧runD mayN (l.drop k) ds=some [d])∧Hid (∀ v∈st,gv v)) (fun _ r _=>n - (intOf r).toNat)
 case atStart=>exact ⟨0,[],rfl,Nat.zero_le _,Nat.zero_le _,World.ownsRow_nil _ _ _ _,Below.refl _ _,HR,⟨[],rfl,HD.out⟩,fun v h=>by simp at h⟩
 case round =>
  obtain ⟨k,st,rfl,hk,hsl,ho,hb,hH,hD,HG⟩:=hrel
  have sB:=hb.size
  obtain ⟨so,sc,rfl,hsc,hsn,hcut,hcell⟩:=ho.shape
  by_cases hlt:k<n
  ·have hlt':(k:Int)<(n:Int):=by omega
   have hkl:k<l.length:=by rw [HN.out];exact hlt
   obtain ⟨b,off,rfl,hcl⟩:=HV.out (by omega)
   obtain ⟨c0,c1,c2,c3,c4,c5,c6,c7⟩:=((hcl k hkl).later (z0a B0 hb))
   have hg':=((hcl k hkl).later (z0a B0 hb)).lt
   have hdr:l.drop k=l[k]::l.drop (k+1):=List.drop_eq_getElem_cons hkl
   have gxk:=gx.out l[k] (List.getElem_mem _)
   obtain ⟨x,he⟩:∃ x:Nd,x=l[k]:=⟨_,rfl⟩
   rw [← he] at c0 c1 c2 c3 c4 c5 c6 c7 hdr gxk
   have Ox:=fun W=>eops_any x W
   obtain ⟨ds,hdl,hrd⟩:=hD.out
   rw [hdr] at hrd
   obtain ⟨hmx,hopx,ds',hdl',hrd'⟩:=runD_one hrd
   have hox:=z7w x hmx
   obtain ⟨q,hq⟩:∃ q:Nat,opsN x=(q:Int):=⟨(opsN x).toNat,by omega⟩
   have hst0:=hH.out
   rw [hdr] at hst0
   unfold evL at hst0
   rw [hq,Int.toNat_natCast] at hst0
   rw [hq,hdl] at hopx
   rw [hq,Int.toNat_natCast,hdl] at hdl'
   have HGR0:=gv_stp x (st.drop (st.length - q)) ts ns row (gxk hmx) (z5s HG.out) GRW.out
   have Tx0:∀ W wo wc,Below w1.heap.size w1 W→Vs W wo (st.drop (st.length - q))→Calls Tryz.prog 62 #[ndv x,.slice wo q wc,scv ta na m m tc nc,.slice ro m rc] W fun e w'=>e=.returned (rs (stpR x (st.drop (st.length - q)) ts ns row))∧Below W.heap.size W w':=fun W wo wc h hvs=>by
    have hlq:(st.drop (st.length - q)).length=q:=by rw [List.length_drop];omega
    have bw:=z0a B0 h
    have:=stp_any x wo ta na ro wc tc nc rc (st.drop (st.length - q)) ts ns row W (HTT.out.later bw) (HPP.out.below bw) hvs (HSt.out.later bw) (HSn.out.later bw) (HVr.out.later bw) HEN.out (by rw [HMR.out];exact hl) hmx (by rw [hlq,hq]) (fun v hv=>(z5s HG.out v hv).2)
    rw [hlq,HMT.out,HMN.out,HMR.out] at this
    exact this
   have HDD:Hid (∃ ds,ds.length=st.length - q+1∧runD mayN (l.drop (k+1)) ds=some [d]):=⟨ds',hdl',hrd'⟩
   rw [hq] at Ox
   have hq4:q≤4:=by omega
   have hqs:q≤st.length:=by omega
   have HK:Hid (st.length≤k∧k≤255):=⟨hsl,by omega⟩
   clear hcl he hH HR hdr hD HD hrd hrd' hdl hdl' hmx hox hopx hq gxk gx
   obtain ⟨f,hf⟩:∃ f:Nat,f=st.length - q:=⟨_,rfl⟩
   rw [← hf] at hst0 HDD Tx0 HGR0
   rcases hrs:stpR x (st.drop f) ts ns row with ⟨⟨rk,rn,rm,rb⟩,re⟩
   rw [hrs] at hst0 Tx0 HGR0
   have HST:Hid ((if re=0 then evL ts ns row (l.drop (k+1)) (st.take f++[⟨rk,rn,rm,rb⟩]) else (nul,re))=R):=hst0
   have HGR:Hid (gv ⟨rk,rn,rm,rb⟩):=HGR0
   have Tx:Hid (∀ W wo wc,Below w1.heap.size w1 W→Vs W wo (st.drop f)→Calls Tryz.prog 62 #[ndv x,.slice wo q wc,scv ta na m m tc nc,.slice ro m rc] W fun e w'=>e=.returned (.tuple #[va rk rn rm ⟨rb.toArray⟩,.int .i64 re])∧Below W.heap.size W w'):=Tx0
   clear hst0 Tx0 HGR0 hrs
   have hfr:(st.length:Int) - (q:Int)=(f:Int):=by omega
   have hfl:f≤st.length:=by omega
   have hfl':(f:Int)≤(st.length:Int):=by omega
   have hqe:st.length - f=q:=by omega
   have A1:Below w1.heap.size w1 (wr.alloc (.cells (ncs x) 99)):=hb.alloc sB _
   have BX:Hid (Cbox (wr.alloc (.cells (ncs x) 99)) wr.heap.size (ncs x) 99):=Cbox.new wr _ _
   have HO:Hid (Vk wr w1.heap.size (.slice so f sc) (st.take f)):=hcut f hfl
   by_cases hsf:sc=f
   ·have hq0:q=0:=by omega
    subst hq0
    subst hsf
    have TT:∀ W,Below w1.heap.size w1 W→Calls Tryz.prog 62 #[ndv x,.slice so 0 0,scv ta na m m tc nc,.slice ro m rc] W fun e w'=>e=.returned (.tuple #[va rk rn rm ⟨rb.toArray⟩,.int .i64 re])∧Below W.heap.size W w':=fun W h=>Tx.out W so 0 h (fun hp=>by rw [List.length_drop] at hp;omega)
    have hle:st.length=sc:=by omega
    clear hcell hcut ho hsn hf hfr hqe hsc hfl
    subst hle
    obtain ⟨xo,xt,xn,xv,xa⟩:=x
    go_wp2_with (go_at_call 61;refine (Ox _).mono ?_;rintro e w2 ⟨rfl,g2⟩)
    have b2:=g2.below
    have b12:Below w1.heap.size w1 w2:=A1.trans (b2.mono A1.size)
    have b02:Below wr.heap.size wr w2:=z0a ((Below.refl _ wr).alloc (Nat.le_refl _) _) b2
    have BXN:Hid (Cbox w2 wr.heap.size (ncs ⟨xo,xt,xn,xv,xa⟩) 99):=Cbox.later BX.out b2
    have BXS:Hid (Cbox w2 sb #[.slice ta m tc,.slice na m nc] 50):=SBX.out.later b12
    have n0:=BXN.out.lt
    have n1:=BXS.out.lt
    have nw2:=b12.size
    go_cut [12,13] from 50 to 70 (fun s12 s13 wx=>∃ p:Nat,s12=.pointer (some ⟨p,0,none⟩)∧s13=.int .i64 re∧At4 wx p 0 ⟨rk,rn,rm,rb⟩∧w2.heap.size≤p∧Below w2.heap.size w2 wx)
    case first =>
     refine wp_region_held_drew (S:=(fun W=>Below w2.heap.size w2 W)) gK ?_ (fun hHeld=>?_)
     ·((try dsimp only);exact (Below.refl _ _).drew)
     refine wpAnyH_take (i:=0) (oi:=evO8x0) (v:=?_) rfl gK gK gK (fun _ _ _ h=>h) (Or.inl ⟨by rfl,?_⟩) (by assumption) ?_
     rotate_left
     ·(intro W hSw;(try dsimp only at hSw);have C:=BXN.out.later hSw;have e0:=C.at 0;have e1:=C.at 1;have e2:=C.at 2;have e3:=C.at 3;have e4:=C.at 4;have e5:=C.at 5;have e6:=C.at 6;have e7:=C.at 7;have D:=BXS.out.later hSw;have s0:=D.at 0;have s1:=D.at 1;clear C D;try simp only [evO8x0];first|(go_simp;done)|(go_simp;with_reducible rfl))
     try simp only [evO8x0,Act.put,List.setIfInBounds_toArray,List.set_cons_zero,List.set_cons_succ]
     refine wpAnyH_take (i:=1) (oi:=evO8x1) (v:=?_) rfl gK gK gK (fun _ _ _ h=>h) (Or.inl ⟨by rfl,?_⟩) (by assumption) ?_
     rotate_left
     ·(intro W hSw;(try dsimp only at hSw);try simp only [evO8x1];first|(go_simp;done)|(go_simp;with_reducible rfl))
     try simp only [evO8x1,Act.put,List.setIfInBounds_toArray,List.set_cons_zero,List.set_cons_succ]
     refine wpAnyH_take (i:=2) (oi:=evO8x2) (v:=?_) rfl gK gK gK (fun _ _ _ h=>h) (Or.inl ⟨by rfl,?_⟩) (by assumption) ?_
     rotate_left
     ·(intro W hSw;(try dsimp only at hSw);try simp only [evO8x2];first|(go_simp;done)|(go_simp;with_reducible rfl))
     try simp only [evO8x2,Act.put,List.setIfInBounds_toArray,List.set_cons_zero,List.set_cons_succ]
     refine wpAnyH_take (i:=3) (oi:=evO8x3) (v:=?_) rfl gK gK gK (fun _ _ _ h=>h) (Or.inl ⟨by rfl,?_⟩) (by assumption) ?_
     rotate_left
     ·(intro W hSw;(try dsimp only at hSw);try simp only [evO8x3];first|(go_simp;done)|(go_simp;with_reducible rfl))
     try simp only [evO8x3,Act.put,List.setIfInBounds_toArray,List.set_cons_zero,List.set_cons_succ]
     refine wpAnyH_take (i:=4) (oi:=evO8x4) (v:=?_) rfl gK gK gK (fun _ _ _ h=>h) (Or.inl ⟨by rfl,?_⟩) (by assumption) ?_
     rotate_left
     ·(intro W hSw;(try dsimp only at hSw);have C:=BXN.out.later hSw;have e0:=C.at 0;have e1:=C.at 1;have e2:=C.at 2;have e3:=C.at 3;have e4:=C.at 4;have e5:=C.at 5;have e6:=C.at 6;have e7:=C.at 7;have D:=BXS.out.later hSw;have s0:=D.at 0;have s1:=D.at 1;clear C D;try simp only [evO8x4];first|(go_simp;done)|(go_simp;with_reducible rfl))
     try simp only [evO8x4,Act.put,List.setIfInBounds_toArray,List.set_cons_zero,List.set_cons_succ]
     refine wpAnyH_take (i:=5) (oi:=evO8x5) (v:=?_) rfl gK gK gK (fun _ _ _ h=>h) (Or.inl ⟨by rfl,?_⟩) (by assumption) ?_
     rotate_left
     ·(intro W hSw;(try dsimp only at hSw);try simp only [evO8x5];first|(go_simp;done)|(go_simp;with_reducible rfl))
     try simp only [evO8x5,Act.put,List.setIfInBounds_toArray,List.set_cons_zero,List.set_cons_succ]
     refine wpAnyH_ready (rs:=[6,10]) gK (by simp) ?_
     refine AllReadyH.cons (o:=z9n) rfl (fun K hK=>?_) (AllReadyH.cons (o:=z6d) rfl (fun K hK=>?_) AllReadyH.nil)
     ·
      try simp only [z9n]
      go_simp
      go_wp2_with fail
      have hH2:Below w2.heap.size w2 _:=hHeld
      have Q3:=TT _ (z0a b12 hH2)
      refine Q3.mono ?_
      rintro e w3 ⟨rfl,b3⟩
      have hb3:Below w2.heap.size w2 w3:=z0a hH2 b3
      clear hH2 Q3
      have hw23:w2.heap.size≤w3.heap.size:=b3.size
      refine hK.out _ _ ?_ (fun hHeld=>?_)
      ·((try dsimp only);exact z0a hHeld b3)
      clear hK K
      try simp only [Act.put,List.setIfInBounds_toArray,List.set_cons_zero,List.set_cons_succ]
      refine wpAnyH_take (i:=7) (oi:=z5z) (v:=?_) rfl gK gK gK (fun _ _ _ h=>h) (Or.inl ⟨by rfl,?_⟩) (by assumption) ?_
      rotate_left
      ·(intro W hSw;(try dsimp only at hSw);try simp only [z5z];first|(go_simp;done)|(go_simp;with_reducible rfl))
      try simp only [z5z,Act.put,List.setIfInBounds_toArray,List.set_cons_zero,List.set_cons_succ]
      refine wpAnyH_take (i:=8) (oi:=z6a) (v:=?_) rfl gK gK gK (fun _ _ _ h=>h) (Or.inl ⟨by rfl,?_⟩) (by assumption) ?_
      rotate_left
      ·(intro W hSw;(try dsimp only at hSw);try simp only [z6a];first|(go_simp;done)|(go_simp;with_reducible rfl))
      try simp only [z6a,Act.put,List.setIfInBounds_toArray,List.set_cons_zero,List.set_cons_succ]
      refine wpAnyH_take (i:=9) (oi:=z5y) (v:=?_) rfl gK gK gK (fun _ _ _ h=>h) (Or.inl ⟨by rfl,?_⟩) (by assumption) ?_
      rotate_left
      ·(intro W hSw;(try dsimp only at hSw);try simp only [z5y];first|(go_simp;done)|(go_simp;with_reducible rfl))
      try simp only [z5y,Act.put,List.setIfInBounds_toArray,List.set_cons_zero,List.set_cons_succ]
      refine wpAnyH_ready (rs:=[10]) gK (by simp) ?_
      refine AllReadyH.cons (o:=z6d) rfl (fun K hK=>?_) AllReadyH.nil
      try simp only [z6d]
      go_simp
      refine hK.out _ _ ?_ (fun hHeld=>?_)
      ·((try dsimp only);exact hHeld.alloc hHeld.size _)
      clear hK K
      try simp only [Act.put,List.setIfInBounds_toArray,List.set_cons_zero,List.set_cons_succ]
      refine wpAnyH_ready (rs:=[11]) gK (by simp) ?_
      refine AllReadyH.cons (o:=z6m) rfl (fun K hK=>?_) AllReadyH.nil
      try simp only [z6m]
      go_simp
      refine hK.out _ _ ?_ (fun hHeld=>?_)
      ·((try dsimp only);exact hb3.alloc hw23 _)
      clear hK K
      try simp only [Act.put,List.setIfInBounds_toArray,List.set_cons_zero,List.set_cons_succ]
      refine wpAnyH_take (i:=12) (oi:=z4c) (v:=?_) rfl gK gK gK (fun _ _ _ h=>h) (Or.inl ⟨by rfl,?_⟩) (by assumption) ?_
      rotate_left
      ·(intro W hSw;(try dsimp only at hSw);try simp only [z4c];first|(go_simp;done)|(go_simp;with_reducible rfl))
      try simp only [z4c,Act.put,List.setIfInBounds_toArray,List.set_cons_zero,List.set_cons_succ]
      refine wpAnyH_done gK ?_ _
      go_wp2_with fail
      go_meet
      exact ⟨w3.heap.size,rfl,rfl,⟨gD,gD,gD,gD⟩,hw23,hHeld⟩
     ·
      try simp only [z6d]
      go_simp
      refine hK.out _ _ ?_ (fun hHeld=>?_)
      ·((try dsimp only);exact hHeld.alloc hHeld.size _)
      clear hK K
      try simp only [Act.put,List.setIfInBounds_toArray,List.set_cons_zero,List.set_cons_succ]
      refine wpAnyH_ready (rs:=[6]) gK (by simp) ?_
      refine AllReadyH.cons (o:=z9n) rfl (fun K hK=>?_) AllReadyH.nil
      try simp only [z9n]
      go_simp
      go_wp2_with fail
      have hH2:Below w2.heap.size w2 _:=hHeld
      have Q3:=TT _ (z0a b12 hH2)
      refine Q3.mono ?_
      rintro e w3 ⟨rfl,b3⟩
      have hb3:Below w2.heap.size w2 w3:=z0a hH2 b3
      clear hH2 Q3
      have bx:Box w3 w2.heap.size nul:=(Box.new w2.drew 0 0 0 []).later b3;have y0:=bx.at4.1;have y1:=bx.at4.2.1;have y2:=bx.at4.2.2.1;have y3:=bx.at4.2.2.2;have yl:=bx.lt;have g0:=bx.free 0;have g1:=bx.free 1;have g2:=bx.free 2;have g3:=bx.free 3;dsimp only [nul] at y0 y1 y2 y3;simp only [Nat.zero_add] at y1 y2 y3;clear bx
      refine hK.out _ _ ?_ (fun hHeld=>?_)
      ·((try dsimp only);exact z0a hHeld b3)
      clear hK K
      try simp only [Act.put,List.setIfInBounds_toArray,List.set_cons_zero,List.set_cons_succ]
      refine wpAnyH_take (i:=7) (oi:=z5z) (v:=?_) rfl gK gK gK (fun _ _ _ h=>h) (Or.inl ⟨by rfl,?_⟩) (by assumption) ?_
      rotate_left
      ·(intro W hSw;(try dsimp only at hSw);try simp only [z5z];first|(go_simp;done)|(go_simp;with_reducible rfl))
      try simp only [z5z,Act.put,List.setIfInBounds_toArray,List.set_cons_zero,List.set_cons_succ]
      refine wpAnyH_take (i:=8) (oi:=z6a) (v:=?_) rfl gK gK gK (fun _ _ _ h=>h) (Or.inl ⟨by rfl,?_⟩) (by assumption) ?_
      rotate_left
      ·(intro W hSw;(try dsimp only at hSw);try simp only [z6a];first|(go_simp;done)|(go_simp;with_reducible rfl))
      try simp only [z6a,Act.put,List.setIfInBounds_toArray,List.set_cons_zero,List.set_cons_succ]
      refine wpAnyH_take (i:=9) (oi:=z5y) (v:=?_) rfl gK gK gK (fun _ _ _ h=>h) (Or.inl ⟨by rfl,?_⟩) (by assumption) ?_
      rotate_left
      ·(intro W hSw;(try dsimp only at hSw);try simp only [z5y];first|(go_simp;done)|(go_simp;with_reducible rfl))
      try simp only [z5y,Act.put,List.setIfInBounds_toArray,List.set_cons_zero,List.set_cons_succ]
      refine wpAnyH_ready (rs:=[11]) gK (by simp) ?_
      refine AllReadyH.cons (o:=z6m) rfl (fun K hK=>?_) AllReadyH.nil
      try simp only [z6m]
      go_simp
      refine hK.out _ _ ?_ (fun hHeld=>?_)
      ·((try dsimp only);exact z1h (q:=w2.heap.size) hHeld (Nat.le_refl _) _ _ _ _)
      clear hK K
      try simp only [Act.put,List.setIfInBounds_toArray,List.set_cons_zero,List.set_cons_succ]
      refine wpAnyH_take (i:=12) (oi:=z4c) (v:=?_) rfl gK gK gK (fun _ _ _ h=>h) (Or.inl ⟨by rfl,?_⟩) (by assumption) ?_
      rotate_left
      ·(intro W hSw;(try dsimp only at hSw);try simp only [z4c];first|(go_simp;done)|(go_simp;with_reducible rfl))
      try simp only [z4c,Act.put,List.setIfInBounds_toArray,List.set_cons_zero,List.set_cons_succ]
      refine wpAnyH_done gK ?_ _
      go_wp2_with fail
      go_meet
      exact ⟨w2.heap.size,rfl,rfl,⟨by simp (maxDischargeDepth:=12) [go_sem,y0],by simp (maxDischargeDepth:=12) [go_sem,y1],by simp (maxDischargeDepth:=12) [go_sem,y2],by simp (maxDischargeDepth:=12) [go_sem,y3]⟩,Nat.le_refl _,hHeld⟩
    rename World=>wx
    obtain ⟨p,rfl,rfl,h4,hp,b2x⟩:=hcut
    have lp:=h4.lt
    obtain ⟨y0,y1,y2,y3⟩:=h4
    dsimp only at y0 y1 y2 y3
    simp only [Nat.zero_add] at y1 y2 y3
    have B1x:=z0a b12 b2x
    have b0x:=z0a b02 b2x
    by_cases hre:re=0
    case neg =>
     have hre':¬ re=0:=hre
     have HF:Hid (R=(nul,re)):=by show R=_;rw [← HST.out,if_neg hre]
     have br:=RBX.out.later B1x
     have lt1:=br.lt
     obtain ⟨r0,r1,r2,r3⟩:=br.at4
     dsimp only [nul] at r0 r1 r2 r3
     simp only [Nat.zero_add] at r1 r2 r3
     have f0:=br.free 0
     have f1:=br.free 1
     have f2:=br.free 2
     have f3:=br.free 3
     clear HST hre
     go_wp2
     refine bodyPost_ret_by (v:=.tuple #[va 0 0 0 ⟨#[]⟩,.int .i64 re]) ?_ rfl ⟨by rw [HF.out];rfl,z1h (z0a B0 B1x) (by omega) _ _ _ _⟩
     simp [results,Tryz.results24,go_sem,r0,r1,r2,r3]
    subst hre
    rw [if_pos rfl] at HST
    have hlk:(st.take st.length).length=st.length:=by rw [List.length_take];omega
    have HO3:Hid (wx.ownsRow w1.heap.size 23 4 (.slice so st.length st.length) st.length (z1v (st.take st.length))):=by have:=Vk.later HO.out b0x;unfold Vk at this;rw [hlk] at this;exact this
    have hrw2:=World.ownsRow.lt HO.out
    obtain ⟨hk1,hk2⟩:=HK.out
    go_wp2_with fail
    refine wp_region_held_drew (S:=(fun W=>At4 W p 0 ⟨rk,rn,rm,rb⟩∧Below w1.heap.size w1 W)) gK ?_ (fun hHeld=>?_)
    ·exact ⟨⟨y0,by simpa using y1,by simpa using y2,by simpa using y3⟩,B1x.drew⟩
    refine wpAnyH_take (i:=0) (oi:=⟨some 64,.move (.tmp 8),34, "eval.go:49",#[],none⟩) (v:=?_) rfl gK gK gK (fun _ _ _ h=>h) (Or.inl ⟨by rfl,?_⟩) (by assumption) ?_
    rotate_left
    ·(intro W hSw;(try dsimp only at hSw);have C:=hSw.1;obtain ⟨u0,u1,u2,u3⟩:=C;dsimp only at u0 u1 u2 u3;simp only [Nat.zero_add] at u1 u2 u3;first|(go_simp;done)|(go_simp;with_reducible rfl))
    try simp only [Act.put,List.setIfInBounds_toArray,List.set_cons_zero,List.set_cons_succ]
    refine wpAnyH_take (i:=1) (oi:=⟨some 65,.move (.tmp 11),3, "eval.go:49",#[],none⟩) (v:=?_) rfl gK gK gK (fun _ _ _ h=>h) (Or.inl ⟨by rfl,?_⟩) (by assumption) ?_
    rotate_left
    ·(intro W hSw;(try dsimp only at hSw);have C:=hSw.1;obtain ⟨u0,u1,u2,u3⟩:=C;dsimp only at u0 u1 u2 u3;simp only [Nat.zero_add] at u1 u2 u3;first|(go_simp;done)|(go_simp;with_reducible rfl))
    try simp only [Act.put,List.setIfInBounds_toArray,List.set_cons_zero,List.set_cons_succ]
    refine wpAnyH_take (i:=2) (oi:=⟨some 66,.slice 34 (.tmp 64) none (some (.tmp 65)) none,34, "eval.go:49",#[⟨0,.data⟩,⟨1,.data⟩],none⟩) (v:=?_) rfl gK gK gK (fun _ _ _ h=>h) (Or.inl ⟨by rfl,?_⟩) (by assumption) ?_
    rotate_left
    ·(intro W hSw;(try dsimp only at hSw);have C:=hSw.1;obtain ⟨u0,u1,u2,u3⟩:=C;dsimp only at u0 u1 u2 u3;simp only [Nat.zero_add] at u1 u2 u3;first|(go_simp;done)|(go_simp;with_reducible rfl))
    try simp only [Act.put,List.setIfInBounds_toArray,List.set_cons_zero,List.set_cons_succ]
    refine wpAnyH_take (i:=3) (oi:=⟨some 67,.load 23 (.tmp 12),23, "eval.go:49",#[],none⟩) (v:=?_) rfl gK gK gK (fun _ _ _ h=>h) (Or.inl ⟨by rfl,?_⟩) (by assumption) ?_
    rotate_left
    ·(intro W hSw;(try dsimp only at hSw);have C:=hSw.1;obtain ⟨u0,u1,u2,u3⟩:=C;dsimp only at u0 u1 u2 u3;simp only [Nat.zero_add] at u1 u2 u3;first|(go_simp;done)|(go_simp;with_reducible rfl))
    try simp only [Act.put,List.setIfInBounds_toArray,List.set_cons_zero,List.set_cons_succ]
    refine wpAnyH_ready (rs:=[4]) gK (by simp) ?_
    refine AllReadyH.cons (o:=⟨some 68,.buildSlice 34 1 #[(0,.tmp 67)],34, "eval.go:49",#[⟨3,.data⟩],none⟩) rfl (fun K hK=>?_) AllReadyH.nil
    go_simp
    refine hK.out _ _ ?_ (fun hHeld=>?_)
    ·((try dsimp only);exact ⟨hHeld.1.later ((Below.refl _ _).alloc (Nat.le_refl _) _),hHeld.2.alloc hHeld.2.size _⟩)
    clear hK K
    try simp only [Act.put,List.setIfInBounds_toArray,List.set_cons_zero,List.set_cons_succ]
    have sx:=B1x.size
    refine wpAnyH_ready (rs:=[5]) gK (by simp) ?_
    refine AllReadyH.cons (o:=⟨some 69,.call { callee:=Callee.builtin Builtin.append,args:=#[.tmp 66,.tmp 68],argTypes:=#[34,34] },34, "eval.go:49",#[⟨2,.data⟩,⟨4,.data⟩],none⟩) rfl (fun K hK=>?_) AllReadyH.nil
    (refine step_append_lies _ (by rfl) _ _ _ (by rfl) w1.heap.size 23 i0 _ 4 40 Tryz.underlying34 hi hz0 hz1 hz2 rfl (by omega) _ st.length (z1v (st.take st.length)) (by rfl) (World.ownsRow.alloc HO3.out.drew _) ⟨wx.heap.size,0,none⟩ 1 1 (vcs ⟨rk,rn,rm,rb⟩).toList (by rfl) (by rfl) (World.news_of_block (cs:=vcs ⟨rk,rn,rm,rb⟩) (t:=23) (fr:=(0,0)) (heap_alloc_new wx.drew _)) (one_va ⟨rk,rn,rm,rb⟩) (by omega) (by unfold maxLen;omega) (by omega) (by simp;omega) (wx.heap.size+1) (by simp) ?_;intro gg gc w5 hown5 hgrow hat hlt5)
    refine hK.out _ _ ?_ (fun hHeld=>?_)
    ·exact ⟨hHeld.1.grown hgrow (fun e=>by have:=(hrw2 _ e.symm).2;have:=b0x.size;have:=b02.size;omega),hHeld.2.grown hgrow (by simp;omega) (fun k hk=>(hrw2 k hk).1)⟩
    clear hK K
    try simp only [Act.put,List.setIfInBounds_toArray,List.set_cons_zero,List.set_cons_succ]
    refine wpAnyH_take (i:=6) (oi:=⟨some 8,.assign (.tmp 69),34, "eval.go:49",#[⟨5,.data⟩,⟨5,.chain⟩,⟨0,.phase⟩,⟨1,.phase⟩,⟨2,.phase⟩,⟨3,.phase⟩,⟨4,.phase⟩,⟨5,.phase⟩],none⟩) (v:=?_) rfl gK gK gK (fun _ _ _ h=>h) (Or.inl ⟨by rfl,?_⟩) (by assumption) ?_
    rotate_left
    ·(intro W hSw;(try dsimp only at hSw);have C:=hSw.1;obtain ⟨u0,u1,u2,u3⟩:=C;dsimp only at u0 u1 u2 u3;simp only [Nat.zero_add] at u1 u2 u3;first|(go_simp;done)|(go_simp;with_reducible rfl))
    try simp only [Act.put,List.setIfInBounds_toArray,List.set_cons_zero,List.set_cons_succ]
    refine wpAnyH_done gK ?_ _
    go_wp2
    have ho5:=Vk.push hlk hown5
    exact ⟨⟨k+1,st.take st.length++[⟨rk,rn,rm,rb⟩],by rw [cst1],by omega,by rw [List.length_append,hlk];simp;omega,ho5,hHeld.2,HST,by obtain ⟨d1,d2,d3⟩:=HDD.out;exact ⟨d1,by rw [List.length_append,hlk,d2];simp,d3⟩,gv_take HG.out HGR.out⟩,by simp [intOf];omega⟩
   ·obtain ⟨g,rfl,hgb,hgl,hgc⟩:∃ g,so=some ⟨g,0,none⟩∧w1.heap.size≤g∧g<wr.heap.size∧∀ i (h:i<st.length),At4 wr g (i*4) st[i]:=by
     cases so with
     | none=>obtain ⟨h1,h2⟩:=hsn rfl;subst h1;exact absurd (by simp at hfl;omega) hsf
     | some a=>obtain ⟨g,rfl,h2⟩:=hcell a rfl;exact ⟨g,rfl,h2⟩
    have TT:∀ W,Below wr.heap.size wr W→Calls Tryz.prog 62 #[ndv x,.slice (some ⟨g,f*4,none⟩) q (sc - f),scv ta na m m tc nc,.slice ro m rc] W fun e w'=>e=.returned (.tuple #[va rk rn rm ⟨rb.toArray⟩,.int .i64 re])∧Below W.heap.size W w':=fun W h=>Tx.out W (some ⟨g,f*4,none⟩) (sc - f) (z0a hb h) (fun _=>⟨g,f*4,rfl,fun i hi=>by
     rw [List.length_drop] at hi
     have:=(hgc (f+i) (by omega)).later h
     rw [List.getElem_drop]
     have e:f*4+i*4=(f+i)*4:=by omega
     rw [e]
     exact this⟩)
    have hfsc:f≤sc:=by omega
    have hqi:(st.length:Int) - (f:Int)=(q:Int):=by omega
    clear hcell hcut ho hsn hgc hf
    obtain ⟨xo,xt,xn,xv,xa⟩:=x
    go_wp2_with (go_at_call 61;refine (Ox _).mono ?_;rintro e w2 ⟨rfl,g2⟩)
    have b2:=g2.below
    have b12:Below w1.heap.size w1 w2:=A1.trans (b2.mono A1.size)
    have b02:Below wr.heap.size wr w2:=z0a ((Below.refl _ wr).alloc (Nat.le_refl _) _) b2
    have BXN:Hid (Cbox w2 wr.heap.size (ncs ⟨xo,xt,xn,xv,xa⟩) 99):=Cbox.later BX.out b2
    have BXS:Hid (Cbox w2 sb #[.slice ta m tc,.slice na m nc] 50):=SBX.out.later b12
    have n0:=BXN.out.lt
    have n1:=BXS.out.lt
    have nw2:=b12.size
    go_cut [12,13] from 50 to 70 (fun s12 s13 wx=>∃ p:Nat,s12=.pointer (some ⟨p,0,none⟩)∧s13=.int .i64 re∧At4 wx p 0 ⟨rk,rn,rm,rb⟩∧w2.heap.size≤p∧Below w2.heap.size w2 wx)
    case first =>
     refine wp_region_held_drew (S:=(fun W=>Below w2.heap.size w2 W)) gK ?_ (fun hHeld=>?_)
     ·((try dsimp only);exact (Below.refl _ _).drew)
     refine wpAnyH_take (i:=0) (oi:=evO8x0) (v:=?_) rfl gK gK gK (fun _ _ _ h=>h) (Or.inl ⟨by rfl,?_⟩) (by assumption) ?_
     rotate_left
     ·(intro W hSw;(try dsimp only at hSw);have C:=BXN.out.later hSw;have e0:=C.at 0;have e1:=C.at 1;have e2:=C.at 2;have e3:=C.at 3;have e4:=C.at 4;have e5:=C.at 5;have e6:=C.at 6;have e7:=C.at 7;have D:=BXS.out.later hSw;have s0:=D.at 0;have s1:=D.at 1;clear C D;try simp only [evO8x0];first|(go_simp;done)|(go_simp;with_reducible rfl))
     try simp only [evO8x0,Act.put,List.setIfInBounds_toArray,List.set_cons_zero,List.set_cons_succ]
     refine wpAnyH_take (i:=1) (oi:=evO8x1) (v:=?_) rfl gK gK gK (fun _ _ _ h=>h) (Or.inl ⟨by rfl,?_⟩) (by assumption) ?_
     rotate_left
     ·(intro W hSw;(try dsimp only at hSw);try simp only [evO8x1];first|(go_simp;done)|(go_simp;with_reducible rfl))
     try simp only [evO8x1,Act.put,List.setIfInBounds_toArray,List.set_cons_zero,List.set_cons_succ]
     refine wpAnyH_take (i:=2) (oi:=evO8x2) (v:=?_) rfl gK gK gK (fun _ _ _ h=>h) (Or.inl ⟨by rfl,?_⟩) (by assumption) ?_
     rotate_left
     ·(intro W hSw;(try dsimp only at hSw);try simp only [evO8x2];first|(go_simp;done)|(go_simp;with_reducible rfl))
     try simp only [evO8x2,Act.put,List.setIfInBounds_toArray,List.set_cons_zero,List.set_cons_succ]
     refine wpAnyH_take (i:=3) (oi:=evO8x3) (v:=?_) rfl gK gK gK (fun _ _ _ h=>h) (Or.inl ⟨by rfl,?_⟩) (by assumption) ?_
     rotate_left
     ·(intro W hSw;(try dsimp only at hSw);try simp only [evO8x3];first|(go_simp;done)|(go_simp;with_reducible rfl))
     try simp only [evO8x3,Act.put,List.setIfInBounds_toArray,List.set_cons_zero,List.set_cons_succ]
     refine wpAnyH_take (i:=4) (oi:=evO8x4) (v:=?_) rfl gK gK gK (fun _ _ _ h=>h) (Or.inl ⟨by rfl,?_⟩) (by assumption) ?_
     rotate_left
     ·(intro W hSw;(try dsimp only at hSw);have C:=BXN.out.later hSw;have e0:=C.at 0;have e1:=C.at 1;have e2:=C.at 2;have e3:=C.at 3;have e4:=C.at 4;have e5:=C.at 5;have e6:=C.at 6;have e7:=C.at 7;have D:=BXS.out.later hSw;have s0:=D.at 0;have s1:=D.at 1;clear C D;try simp only [evO8x4];first|(go_simp;done)|(go_simp;with_reducible rfl))
     try simp only [evO8x4,Act.put,List.setIfInBounds_toArray,List.set_cons_zero,List.set_cons_succ]
     refine wpAnyH_take (i:=5) (oi:=evO8x5) (v:=?_) rfl gK gK gK (fun _ _ _ h=>h) (Or.inl ⟨by rfl,?_⟩) (by assumption) ?_
     rotate_left
     ·(intro W hSw;(try dsimp only at hSw);try simp only [evO8x5];first|(go_simp;done)|(go_simp;with_reducible rfl))
     try simp only [evO8x5,Act.put,List.setIfInBounds_toArray,List.set_cons_zero,List.set_cons_succ]
     refine wpAnyH_ready (rs:=[6,10]) gK (by simp) ?_
     refine AllReadyH.cons (o:=z9n) rfl (fun K hK=>?_) (AllReadyH.cons (o:=z6d) rfl (fun K hK=>?_) AllReadyH.nil)
     ·
      try simp only [z9n]
      go_simp
      go_wp2_with fail
      have hH2:Below w2.heap.size w2 _:=hHeld
      have Q3:=TT _ (z0a b02 hH2)
      refine Q3.mono ?_
      rintro e w3 ⟨rfl,b3⟩
      have hb3:Below w2.heap.size w2 w3:=z0a hH2 b3
      clear hH2 Q3
      have hw23:w2.heap.size≤w3.heap.size:=b3.size
      refine hK.out _ _ ?_ (fun hHeld=>?_)
      ·((try dsimp only);exact z0a hHeld b3)
      clear hK K
      try simp only [Act.put,List.setIfInBounds_toArray,List.set_cons_zero,List.set_cons_succ]
      refine wpAnyH_take (i:=7) (oi:=z5z) (v:=?_) rfl gK gK gK (fun _ _ _ h=>h) (Or.inl ⟨by rfl,?_⟩) (by assumption) ?_
      rotate_left
      ·(intro W hSw;(try dsimp only at hSw);try simp only [z5z];first|(go_simp;done)|(go_simp;with_reducible rfl))
      try simp only [z5z,Act.put,List.setIfInBounds_toArray,List.set_cons_zero,List.set_cons_succ]
      refine wpAnyH_take (i:=8) (oi:=z6a) (v:=?_) rfl gK gK gK (fun _ _ _ h=>h) (Or.inl ⟨by rfl,?_⟩) (by assumption) ?_
      rotate_left
      ·(intro W hSw;(try dsimp only at hSw);try simp only [z6a];first|(go_simp;done)|(go_simp;with_reducible rfl))
      try simp only [z6a,Act.put,List.setIfInBounds_toArray,List.set_cons_zero,List.set_cons_succ]
      refine wpAnyH_take (i:=9) (oi:=z5y) (v:=?_) rfl gK gK gK (fun _ _ _ h=>h) (Or.inl ⟨by rfl,?_⟩) (by assumption) ?_
      rotate_left
      ·(intro W hSw;(try dsimp only at hSw);try simp only [z5y];first|(go_simp;done)|(go_simp;with_reducible rfl))
      try simp only [z5y,Act.put,List.setIfInBounds_toArray,List.set_cons_zero,List.set_cons_succ]
      refine wpAnyH_ready (rs:=[10]) gK (by simp) ?_
      refine AllReadyH.cons (o:=z6d) rfl (fun K hK=>?_) AllReadyH.nil
      try simp only [z6d]
      go_simp
      refine hK.out _ _ ?_ (fun hHeld=>?_)
      ·((try dsimp only);exact hHeld.alloc hHeld.size _)
      clear hK K
      try simp only [Act.put,List.setIfInBounds_toArray,List.set_cons_zero,List.set_cons_succ]
      refine wpAnyH_ready (rs:=[11]) gK (by simp) ?_
      refine AllReadyH.cons (o:=z6m) rfl (fun K hK=>?_) AllReadyH.nil
      try simp only [z6m]
      go_simp
      refine hK.out _ _ ?_ (fun hHeld=>?_)
      ·((try dsimp only);exact hb3.alloc hw23 _)
      clear hK K
      try simp only [Act.put,List.setIfInBounds_toArray,List.set_cons_zero,List.set_cons_succ]
      refine wpAnyH_take (i:=12) (oi:=z4c) (v:=?_) rfl gK gK gK (fun _ _ _ h=>h) (Or.inl ⟨by rfl,?_⟩) (by assumption) ?_
      rotate_left
      ·(intro W hSw;(try dsimp only at hSw);try simp only [z4c];first|(go_simp;done)|(go_simp;with_reducible rfl))
      try simp only [z4c,Act.put,List.setIfInBounds_toArray,List.set_cons_zero,List.set_cons_succ]
      refine wpAnyH_done gK ?_ _
      go_wp2_with fail
      go_meet
      exact ⟨w3.heap.size,rfl,rfl,⟨gD,gD,gD,gD⟩,hw23,hHeld⟩
     ·
      try simp only [z6d]
      go_simp
      refine hK.out _ _ ?_ (fun hHeld=>?_)
      ·((try dsimp only);exact hHeld.alloc hHeld.size _)
      clear hK K
      try simp only [Act.put,List.setIfInBounds_toArray,List.set_cons_zero,List.set_cons_succ]
      refine wpAnyH_ready (rs:=[6]) gK (by simp) ?_
      refine AllReadyH.cons (o:=z9n) rfl (fun K hK=>?_) AllReadyH.nil
      try simp only [z9n]
      go_simp
      go_wp2_with fail
      have hH2:Below w2.heap.size w2 _:=hHeld
      have Q3:=TT _ (z0a b02 hH2)
      refine Q3.mono ?_
      rintro e w3 ⟨rfl,b3⟩
      have hb3:Below w2.heap.size w2 w3:=z0a hH2 b3
      clear hH2 Q3
      have bx:Box w3 w2.heap.size nul:=(Box.new w2.drew 0 0 0 []).later b3;have y0:=bx.at4.1;have y1:=bx.at4.2.1;have y2:=bx.at4.2.2.1;have y3:=bx.at4.2.2.2;have yl:=bx.lt;have g0:=bx.free 0;have g1:=bx.free 1;have g2:=bx.free 2;have g3:=bx.free 3;dsimp only [nul] at y0 y1 y2 y3;simp only [Nat.zero_add] at y1 y2 y3;clear bx
      refine hK.out _ _ ?_ (fun hHeld=>?_)
      ·((try dsimp only);exact z0a hHeld b3)
      clear hK K
      try simp only [Act.put,List.setIfInBounds_toArray,List.set_cons_zero,List.set_cons_succ]
      refine wpAnyH_take (i:=7) (oi:=z5z) (v:=?_) rfl gK gK gK (fun _ _ _ h=>h) (Or.inl ⟨by rfl,?_⟩) (by assumption) ?_
      rotate_left
      ·(intro W hSw;(try dsimp only at hSw);try simp only [z5z];first|(go_simp;done)|(go_simp;with_reducible rfl))
      try simp only [z5z,Act.put,List.setIfInBounds_toArray,List.set_cons_zero,List.set_cons_succ]
      refine wpAnyH_take (i:=8) (oi:=z6a) (v:=?_) rfl gK gK gK (fun _ _ _ h=>h) (Or.inl ⟨by rfl,?_⟩) (by assumption) ?_
      rotate_left
      ·(intro W hSw;(try dsimp only at hSw);try simp only [z6a];first|(go_simp;done)|(go_simp;with_reducible rfl))
      try simp only [z6a,Act.put,List.setIfInBounds_toArray,List.set_cons_zero,List.set_cons_succ]
      refine wpAnyH_take (i:=9) (oi:=z5y) (v:=?_) rfl gK gK gK (fun _ _ _ h=>h) (Or.inl ⟨by rfl,?_⟩) (by assumption) ?_
      rotate_left
      ·(intro W hSw;(try dsimp only at hSw);try simp only [z5y];first|(go_simp;done)|(go_simp;with_reducible rfl))
      try simp only [z5y,Act.put,List.setIfInBounds_toArray,List.set_cons_zero,List.set_cons_succ]
      refine wpAnyH_ready (rs:=[11]) gK (by simp) ?_
      refine AllReadyH.cons (o:=z6m) rfl (fun K hK=>?_) AllReadyH.nil
      try simp only [z6m]
      go_simp
      refine hK.out _ _ ?_ (fun hHeld=>?_)
      ·((try dsimp only);exact z1h (q:=w2.heap.size) hHeld (Nat.le_refl _) _ _ _ _)
      clear hK K
      try simp only [Act.put,List.setIfInBounds_toArray,List.set_cons_zero,List.set_cons_succ]
      refine wpAnyH_take (i:=12) (oi:=z4c) (v:=?_) rfl gK gK gK (fun _ _ _ h=>h) (Or.inl ⟨by rfl,?_⟩) (by assumption) ?_
      rotate_left
      ·(intro W hSw;(try dsimp only at hSw);try simp only [z4c];first|(go_simp;done)|(go_simp;with_reducible rfl))
      try simp only [z4c,Act.put,List.setIfInBounds_toArray,List.set_cons_zero,List.set_cons_succ]
      refine wpAnyH_done gK ?_ _
      go_wp2_with fail
      go_meet
      exact ⟨w2.heap.size,rfl,rfl,⟨by simp (maxDischargeDepth:=12) [go_sem,y0],by simp (maxDischargeDepth:=12) [go_sem,y1],by simp (maxDischargeDepth:=12) [go_sem,y2],by simp (maxDischargeDepth:=12) [go_sem,y3]⟩,Nat.le_refl _,hHeld⟩
    rename World=>wx
    obtain ⟨p,rfl,rfl,h4,hp,b2x⟩:=hcut
    have lp:=h4.lt
    obtain ⟨y0,y1,y2,y3⟩:=h4
    dsimp only at y0 y1 y2 y3
    simp only [Nat.zero_add] at y1 y2 y3
    have B1x:=z0a b12 b2x
    have b0x:=z0a b02 b2x
    by_cases hre:re=0
    case neg =>
     have hre':¬ re=0:=hre
     have HF:Hid (R=(nul,re)):=by show R=_;rw [← HST.out,if_neg hre]
     have br:=RBX.out.later B1x
     have lt1:=br.lt
     obtain ⟨r0,r1,r2,r3⟩:=br.at4
     dsimp only [nul] at r0 r1 r2 r3
     simp only [Nat.zero_add] at r1 r2 r3
     have f0:=br.free 0
     have f1:=br.free 1
     have f2:=br.free 2
     have f3:=br.free 3
     clear HST hre
     go_wp2
     refine bodyPost_ret_by (v:=.tuple #[va 0 0 0 ⟨#[]⟩,.int .i64 re]) ?_ rfl ⟨by rw [HF.out];rfl,z1h (z0a B0 B1x) (by omega) _ _ _ _⟩
     simp [results,Tryz.results24,go_sem,r0,r1,r2,r3]
    subst hre
    rw [if_pos rfl] at HST
    have hlk:(st.take f).length=f:=by rw [List.length_take];omega
    have HO3:Hid (wx.ownsRow w1.heap.size 23 4 (.slice (some ⟨g,0,none⟩) f sc) f (z1v (st.take f))):=by have:=Vk.later HO.out b0x;unfold Vk at this;rw [hlk] at this;exact this
    have hrw2:=World.ownsRow.lt HO.out
    obtain ⟨hk1,hk2⟩:=HK.out
    go_wp2_with fail
    refine wp_region_held_drew (S:=(fun W=>At4 W p 0 ⟨rk,rn,rm,rb⟩∧Below w1.heap.size w1 W)) gK ?_ (fun hHeld=>?_)
    ·exact ⟨⟨y0,by simpa using y1,by simpa using y2,by simpa using y3⟩,B1x.drew⟩
    refine wpAnyH_take (i:=0) (oi:=⟨some 64,.move (.tmp 8),34, "eval.go:49",#[],none⟩) (v:=?_) rfl gK gK gK (fun _ _ _ h=>h) (Or.inl ⟨by rfl,?_⟩) (by assumption) ?_
    rotate_left
    ·(intro W hSw;(try dsimp only at hSw);have C:=hSw.1;obtain ⟨u0,u1,u2,u3⟩:=C;dsimp only at u0 u1 u2 u3;simp only [Nat.zero_add] at u1 u2 u3;first|(go_simp;done)|(go_simp;with_reducible rfl))
    try simp only [Act.put,List.setIfInBounds_toArray,List.set_cons_zero,List.set_cons_succ]
    refine wpAnyH_take (i:=1) (oi:=⟨some 65,.move (.tmp 11),3, "eval.go:49",#[],none⟩) (v:=?_) rfl gK gK gK (fun _ _ _ h=>h) (Or.inl ⟨by rfl,?_⟩) (by assumption) ?_
    rotate_left
    ·(intro W hSw;(try dsimp only at hSw);have C:=hSw.1;obtain ⟨u0,u1,u2,u3⟩:=C;dsimp only at u0 u1 u2 u3;simp only [Nat.zero_add] at u1 u2 u3;first|(go_simp;done)|(go_simp;with_reducible rfl))
    try simp only [Act.put,List.setIfInBounds_toArray,List.set_cons_zero,List.set_cons_succ]
    refine wpAnyH_take (i:=2) (oi:=⟨some 66,.slice 34 (.tmp 64) none (some (.tmp 65)) none,34, "eval.go:49",#[⟨0,.data⟩,⟨1,.data⟩],none⟩) (v:=?_) rfl gK gK gK (fun _ _ _ h=>h) (Or.inl ⟨by rfl,?_⟩) (by assumption) ?_
    rotate_left
    ·(intro W hSw;(try dsimp only at hSw);have C:=hSw.1;obtain ⟨u0,u1,u2,u3⟩:=C;dsimp only at u0 u1 u2 u3;simp only [Nat.zero_add] at u1 u2 u3;first|(go_simp;done)|(go_simp;with_reducible rfl))
    try simp only [Act.put,List.setIfInBounds_toArray,List.set_cons_zero,List.set_cons_succ]
    refine wpAnyH_take (i:=3) (oi:=⟨some 67,.load 23 (.tmp 12),23, "eval.go:49",#[],none⟩) (v:=?_) rfl gK gK gK (fun _ _ _ h=>h) (Or.inl ⟨by rfl,?_⟩) (by assumption) ?_
    rotate_left
    ·(intro W hSw;(try dsimp only at hSw);have C:=hSw.1;obtain ⟨u0,u1,u2,u3⟩:=C;dsimp only at u0 u1 u2 u3;simp only [Nat.zero_add] at u1 u2 u3;first|(go_simp;done)|(go_simp;with_reducible rfl))
    try simp only [Act.put,List.setIfInBounds_toArray,List.set_cons_zero,List.set_cons_succ]
    refine wpAnyH_ready (rs:=[4]) gK (by simp) ?_
    refine AllReadyH.cons (o:=⟨some 68,.buildSlice 34 1 #[(0,.tmp 67)],34, "eval.go:49",#[⟨3,.data⟩],none⟩) rfl (fun K hK=>?_) AllReadyH.nil
    go_simp
    refine hK.out _ _ ?_ (fun hHeld=>?_)
    ·((try dsimp only);exact ⟨hHeld.1.later ((Below.refl _ _).alloc (Nat.le_refl _) _),hHeld.2.alloc hHeld.2.size _⟩)
    clear hK K
    try simp only [Act.put,List.setIfInBounds_toArray,List.set_cons_zero,List.set_cons_succ]
    have sx:=B1x.size
    refine wpAnyH_ready (rs:=[5]) gK (by simp) ?_
    refine AllReadyH.cons (o:=⟨some 69,.call { callee:=Callee.builtin Builtin.append,args:=#[.tmp 66,.tmp 68],argTypes:=#[34,34] },34, "eval.go:49",#[⟨2,.data⟩,⟨4,.data⟩],none⟩) rfl (fun K hK=>?_) AllReadyH.nil
    (refine step_append_lies _ (by rfl) _ _ _ (by rfl) w1.heap.size 23 i0 _ 4 40 Tryz.underlying34 hi hz0 hz1 hz2 rfl (by omega) _ f (z1v (st.take f)) (by rfl) (World.ownsRow.alloc HO3.out.drew _) ⟨wx.heap.size,0,none⟩ 1 1 (vcs ⟨rk,rn,rm,rb⟩).toList (by rfl) (by rfl) (World.news_of_block (cs:=vcs ⟨rk,rn,rm,rb⟩) (t:=23) (fr:=(0,0)) (heap_alloc_new wx.drew _)) (one_va ⟨rk,rn,rm,rb⟩) (by omega) (by unfold maxLen;omega) (by omega) (by simp;omega) (wx.heap.size+1) (by simp) ?_;intro gg gc w5 hown5 hgrow hat hlt5)
    refine hK.out _ _ ?_ (fun hHeld=>?_)
    ·exact ⟨hHeld.1.grown hgrow (fun e=>by have:=(hrw2 _ e.symm).2;have:=b0x.size;have:=b02.size;omega),hHeld.2.grown hgrow (by simp;omega) (fun k hk=>(hrw2 k hk).1)⟩
    clear hK K
    try simp only [Act.put,List.setIfInBounds_toArray,List.set_cons_zero,List.set_cons_succ]
    refine wpAnyH_take (i:=6) (oi:=⟨some 8,.assign (.tmp 69),34, "eval.go:49",#[⟨5,.data⟩,⟨5,.chain⟩,⟨0,.phase⟩,⟨1,.phase⟩,⟨2,.phase⟩,⟨3,.phase⟩,⟨4,.phase⟩,⟨5,.phase⟩],none⟩) (v:=?_) rfl gK gK gK (fun _ _ _ h=>h) (Or.inl ⟨by rfl,?_⟩) (by assumption) ?_
    rotate_left
    ·(intro W hSw;(try dsimp only at hSw);have C:=hSw.1;obtain ⟨u0,u1,u2,u3⟩:=C;dsimp only at u0 u1 u2 u3;simp only [Nat.zero_add] at u1 u2 u3;first|(go_simp;done)|(go_simp;with_reducible rfl))
    try simp only [Act.put,List.setIfInBounds_toArray,List.set_cons_zero,List.set_cons_succ]
    refine wpAnyH_done gK ?_ _
    go_wp2
    have ho5:=Vk.push hlk hown5
    exact ⟨⟨k+1,st.take f++[⟨rk,rn,rm,rb⟩],by rw [cst1],by omega,by rw [List.length_append,hlk];simp;omega,ho5,hHeld.2,HST,by obtain ⟨d1,d2,d3⟩:=HDD.out;exact ⟨d1,by rw [List.length_append,hlk,d2];simp,d3⟩,gv_take HG.out HGR.out⟩,by simp [intOf];omega⟩
  ·have hlt':¬ (k:Int)<(n:Int):=by omega
   have HF:Hid (R=(st.headD nul,0)∧st.length=1):=by
    obtain ⟨ds,h1,h2⟩:=hD.out
    have h3:=hH.out
    have e:l.drop k=[]:=List.drop_eq_nil_of_le (by rw [HN.out];omega)
    rw [e] at h2 h3
    have h4:ds=[d]:=by
     unfold runD at h2
     exact Option.some.inj h2
    exact ⟨h3.symm,by rw [← h1,h4];rfl⟩
   obtain ⟨v,hv⟩:=List.length_eq_one_iff.1 HF.out.2
   subst hv
   have gvv:=HG.out v (by simp)
   obtain ⟨g,rfl,hgb,hgl,hgc⟩:∃ g,so=some ⟨g,0,none⟩∧w1.heap.size≤g∧g<wr.heap.size∧∀ i (h:i < [v].length),At4 wr g (i*4) [v][i]:=by
    cases so with
    | none=>obtain ⟨h1,h2⟩:=hsn rfl;simp at h1
    | some a=>obtain ⟨g,rfl,h2⟩:=hcell a rfl;exact ⟨g,rfl,h2⟩
   have h4:At4 wr g 0 v:=by have:=hgc 0 (by simp);simpa using this
   have AP:=fun W=>apart_any v W (by have:=(z2f v).1 gvv.1;unfold vok at this;rcases this with h|h|h|h|h|h <;> first|(rw [h.2.2.2];simp)|(rw [h.2.2];simp)|omega|(rw [h.2.2.2.2.2];simp))
   have HF2:Hid (R=(v,0)):=HF.out.1
   obtain ⟨vk,vn,vm,vb⟩:=v
   obtain ⟨y0,y1,y2,y3⟩:=h4
   dsimp only at y0 y1 y2 y3
   simp only [Nat.zero_add] at y1 y2 y3
   clear HF hgc hcell hcut ho hsn hH hD HG gvv HR HD gx
   go_wp2_with fail
   refine (AP _).mono ?_
   rintro e w5 ⟨rfl,b5⟩
   have B5:=z0a (z0a B0 hb) b5
   have br:=(RBX.out.later hb).later b5
   have lt1:=br.lt
   obtain ⟨r0,r1,r2,r3⟩:=br.at4
   dsimp only [nul] at r0 r1 r2 r3
   simp only [Nat.zero_add] at r1 r2 r3
   have f0:=br.free 0
   have f1:=br.free 1
   have f2:=br.free 2
   have f3:=br.free 3
   clear y0 y1 y2 y3
   go_wp2
   refine bodyPost_ret_by (v:=.tuple #[va vk vn vm ⟨vb.toArray⟩,.int .i64 0]) ?_ rfl ⟨by rw [HF2.out],z1h B5 (by omega) _ _ _ _⟩
   simp [results,Tryz.results24,go_sem,r0,r1,r2,r3]
theorem ev_bad1 (lo ta na ro:Option Addr) (lc tc nc rc n p q m:Nat) (w:World)
  (RI:z0n 59 #[.slice lo n lc] w (.bool false)) :
  Calls Tryz.prog 24 #[.slice lo n lc,scv ta na p q tc nc,.slice ro m rc] w fun e w'=>e=.returned (rs (nul,1))∧Below w.heap.size w w':=by
 have h1:=Cbox.new w #[.slice ta p tc,.slice na q nc] 50
 have h2:=Box.new (w.alloc (.cells #[.slice ta p tc,.slice na q nc] 50)) 0 0 0 []
 have B00:Below w.heap.size w ((w.alloc (.cells #[.slice ta p tc,.slice na q nc] 50)).alloc (.cells #[.int .i64 0,.int .i64 0,.int .i64 0,.string ⟨#[]⟩] 23)):=((Below.refl _ w).alloc (Nat.le_refl _) _).alloc (by simp) _
 simp only [World.size_alloc] at h2
 have h1':=h1.later ((Below.refl _ _).alloc (Nat.le_refl _) (.cells #[.int .i64 0,.int .i64 0,.int .i64 0,.string ⟨#[]⟩] 23))
 generalize hw0:((w.alloc (.cells #[.slice ta p tc,.slice na q nc] 50)).alloc (.cells #[.int .i64 0,.int .i64 0,.int .i64 0,.string ⟨#[]⟩] 23))=w0 at h1' h2 B00
 clear h1
 have HX:Hid (Box w0 (w.heap.size+1) nul):=h2
 have HS:Hid (Cbox w0 w.heap.size #[.slice ta p tc,.slice na q nc] 50):=h1'
 clear h1' h2
 go_enter Tryz.func24,Tryz.ntmps24
 go_upto_region 1 with fail
 try rw [hw0]
 clear hw0
 have R1:=RI w0 B00
 go_wp2_with fail
 refine R1.mono ?_
 rintro e wa ⟨rfl,ba⟩
 have Ba:=z0a B00 ba
 have HSa:Hid (Cbox wa w.heap.size #[.slice ta p tc,.slice na q nc] 50):=HS.out.later ba
 have c0:=HSa.out.at 0
 have c1:=HSa.out.at 1
 have cl:=HSa.out.lt
 have bra:=HX.out.later ba
 clear R1 RI
 have br:=bra
 have lt1:=br.lt
 obtain ⟨r0,r1,r2,r3⟩:=br.at4
 dsimp only [nul] at r0 r1 r2 r3
 simp only [Nat.zero_add] at r1 r2 r3
 have f0:=br.free 0
 have f1:=br.free 1
 have f2:=br.free 2
 have f3:=br.free 3
 go_wp2
 refine bodyPost_ret_by (v:=.tuple #[va 0 0 0 ⟨#[]⟩,.int .i64 1]) ?_ rfl ⟨rfl,z1h Ba (by omega) _ _ _ _⟩
 simp [results,Tryz.results24,go_sem,r0,r1,r2,r3]
theorem ev_bad2 (lo ta na ro:Option Addr) (lc tc nc rc n p q m:Nat) (w:World) (h:¬ p=m)
  (RI:z0n 59 #[.slice lo n lc] w (.bool true)) :
  Calls Tryz.prog 24 #[.slice lo n lc,scv ta na p q tc nc,.slice ro m rc] w fun e w'=>e=.returned (rs (nul,1))∧Below w.heap.size w w':=by
 have h1:=Cbox.new w #[.slice ta p tc,.slice na q nc] 50
 have h2:=Box.new (w.alloc (.cells #[.slice ta p tc,.slice na q nc] 50)) 0 0 0 []
 have B00:Below w.heap.size w ((w.alloc (.cells #[.slice ta p tc,.slice na q nc] 50)).alloc (.cells #[.int .i64 0,.int .i64 0,.int .i64 0,.string ⟨#[]⟩] 23)):=((Below.refl _ w).alloc (Nat.le_refl _) _).alloc (by simp) _
 simp only [World.size_alloc] at h2
 have h1':=h1.later ((Below.refl _ _).alloc (Nat.le_refl _) (.cells #[.int .i64 0,.int .i64 0,.int .i64 0,.string ⟨#[]⟩] 23))
 generalize hw0:((w.alloc (.cells #[.slice ta p tc,.slice na q nc] 50)).alloc (.cells #[.int .i64 0,.int .i64 0,.int .i64 0,.string ⟨#[]⟩] 23))=w0 at h1' h2 B00
 clear h1
 have HX:Hid (Box w0 (w.heap.size+1) nul):=h2
 have HS:Hid (Cbox w0 w.heap.size #[.slice ta p tc,.slice na q nc] 50):=h1'
 clear h1' h2
 have h':¬ (p:Int)=(m:Int):=by omega
 clear h
 go_enter Tryz.func24,Tryz.ntmps24
 go_upto_region 1 with fail
 try rw [hw0]
 clear hw0
 have R1:=RI w0 B00
 go_wp2_with fail
 refine R1.mono ?_
 rintro e wa ⟨rfl,ba⟩
 have Ba:=z0a B00 ba
 have HSa:Hid (Cbox wa w.heap.size #[.slice ta p tc,.slice na q nc] 50):=HS.out.later ba
 have c0:=HSa.out.at 0
 have c1:=HSa.out.at 1
 have cl:=HSa.out.lt
 have bra:=HX.out.later ba
 clear R1 RI
 have br:=bra
 have lt1:=br.lt
 obtain ⟨r0,r1,r2,r3⟩:=br.at4
 dsimp only [nul] at r0 r1 r2 r3
 simp only [Nat.zero_add] at r1 r2 r3
 have f0:=br.free 0
 have f1:=br.free 1
 have f2:=br.free 2
 have f3:=br.free 3
 go_wp2
 refine bodyPost_ret_by (v:=.tuple #[va 0 0 0 ⟨#[]⟩,.int .i64 1]) ?_ rfl ⟨rfl,z1h Ba (by omega) _ _ _ _⟩
 simp [results,Tryz.results24,go_sem,r0,r1,r2,r3]
theorem ev_bad3 (lo ta na ro:Option Addr) (lc tc nc rc n q m:Nat) (w:World) (h:¬ q=m)
  (RI:z0n 59 #[.slice lo n lc] w (.bool true)) :
  Calls Tryz.prog 24 #[.slice lo n lc,scv ta na m q tc nc,.slice ro m rc] w fun e w'=>e=.returned (rs (nul,1))∧Below w.heap.size w w':=by
 have h1:=Cbox.new w #[.slice ta m tc,.slice na q nc] 50
 have h2:=Box.new (w.alloc (.cells #[.slice ta m tc,.slice na q nc] 50)) 0 0 0 []
 have B00:Below w.heap.size w ((w.alloc (.cells #[.slice ta m tc,.slice na q nc] 50)).alloc (.cells #[.int .i64 0,.int .i64 0,.int .i64 0,.string ⟨#[]⟩] 23)):=((Below.refl _ w).alloc (Nat.le_refl _) _).alloc (by simp) _
 simp only [World.size_alloc] at h2
 have h1':=h1.later ((Below.refl _ _).alloc (Nat.le_refl _) (.cells #[.int .i64 0,.int .i64 0,.int .i64 0,.string ⟨#[]⟩] 23))
 generalize hw0:((w.alloc (.cells #[.slice ta m tc,.slice na q nc] 50)).alloc (.cells #[.int .i64 0,.int .i64 0,.int .i64 0,.string ⟨#[]⟩] 23))=w0 at h1' h2 B00
 clear h1
 have HX:Hid (Box w0 (w.heap.size+1) nul):=h2
 have HS:Hid (Cbox w0 w.heap.size #[.slice ta m tc,.slice na q nc] 50):=h1'
 clear h1' h2
 have h':¬ (q:Int)=(m:Int):=by omega
 clear h
 go_enter Tryz.func24,Tryz.ntmps24
 go_upto_region 1 with fail
 try rw [hw0]
 clear hw0
 have R1:=RI w0 B00
 go_wp2_with fail
 refine R1.mono ?_
 rintro e wa ⟨rfl,ba⟩
 have Ba:=z0a B00 ba
 have HSa:Hid (Cbox wa w.heap.size #[.slice ta m tc,.slice na q nc] 50):=HS.out.later ba
 have c0:=HSa.out.at 0
 have c1:=HSa.out.at 1
 have cl:=HSa.out.lt
 have bra:=HX.out.later ba
 clear R1 RI
 have br:=bra
 have lt1:=br.lt
 obtain ⟨r0,r1,r2,r3⟩:=br.at4
 dsimp only [nul] at r0 r1 r2 r3
 simp only [Nat.zero_add] at r1 r2 r3
 have f0:=br.free 0
 have f1:=br.free 1
 have f2:=br.free 2
 have f3:=br.free 3
 go_wp2
 refine bodyPost_ret_by (v:=.tuple #[va 0 0 0 ⟨#[]⟩,.int .i64 1]) ?_ rfl ⟨rfl,z1h Ba (by omega) _ _ _ _⟩
 simp [results,Tryz.results24,go_sem,r0,r1,r2,r3]
theorem ev_bad4 (lo ta na ro:Option Addr) (lc tc nc rc n m:Nat) (w:World) (AR:z0n 60 #[.slice ro m rc] w (.bool false))
  (RI:z0n 59 #[.slice lo n lc] w (.bool true)) :
  Calls Tryz.prog 24 #[.slice lo n lc,scv ta na m m tc nc,.slice ro m rc] w fun e w'=>e=.returned (rs (nul,1))∧Below w.heap.size w w':=by
 have h1:=Cbox.new w #[.slice ta m tc,.slice na m nc] 50
 have h2:=Box.new (w.alloc (.cells #[.slice ta m tc,.slice na m nc] 50)) 0 0 0 []
 have B00:Below w.heap.size w ((w.alloc (.cells #[.slice ta m tc,.slice na m nc] 50)).alloc (.cells #[.int .i64 0,.int .i64 0,.int .i64 0,.string ⟨#[]⟩] 23)):=((Below.refl _ w).alloc (Nat.le_refl _) _).alloc (by simp) _
 simp only [World.size_alloc] at h2
 have h1':=h1.later ((Below.refl _ _).alloc (Nat.le_refl _) (.cells #[.int .i64 0,.int .i64 0,.int .i64 0,.string ⟨#[]⟩] 23))
 generalize hw0:((w.alloc (.cells #[.slice ta m tc,.slice na m nc] 50)).alloc (.cells #[.int .i64 0,.int .i64 0,.int .i64 0,.string ⟨#[]⟩] 23))=w0 at h1' h2 B00
 clear h1
 have HX:Hid (Box w0 (w.heap.size+1) nul):=h2
 have HS:Hid (Cbox w0 w.heap.size #[.slice ta m tc,.slice na m nc] 50):=h1'
 clear h1' h2
 go_enter Tryz.func24,Tryz.ntmps24
 go_upto_region 1 with fail
 try rw [hw0]
 clear hw0
 have R1:=RI w0 B00
 go_wp2_with fail
 refine R1.mono ?_
 rintro e wa ⟨rfl,ba⟩
 have Ba:=z0a B00 ba
 have HSa:Hid (Cbox wa w.heap.size #[.slice ta m tc,.slice na m nc] 50):=HS.out.later ba
 have c0:=HSa.out.at 0
 have c1:=HSa.out.at 1
 have cl:=HSa.out.lt
 have bra:=HX.out.later ba
 clear R1 RI
 have A2:=AR wa Ba
 go_wp2_with fail
 refine A2.mono ?_
 rintro e wb ⟨rfl,bb⟩
 have Bb:=z0a Ba bb
 have brb:=bra.later bb
 clear c0 c1 cl A2 AR
 have br:=brb
 have lt1:=br.lt
 obtain ⟨r0,r1,r2,r3⟩:=br.at4
 dsimp only [nul] at r0 r1 r2 r3
 simp only [Nat.zero_add] at r1 r2 r3
 have f0:=br.free 0
 have f1:=br.free 1
 have f2:=br.free 2
 have f3:=br.free 3
 go_wp2
 refine bodyPost_ret_by (v:=.tuple #[va 0 0 0 ⟨#[]⟩,.int .i64 1]) ?_ rfl ⟨rfl,z1h Bb (by omega) _ _ _ _⟩
 simp [results,Tryz.results24,go_sem,r0,r1,r2,r3]
theorem eval_any (lo ta na ro:Option Addr) (lc tc nc rc:Nat) (l:List Nd) (ts ns:List (List UInt8)) (row:List Va) (w:World) (hv:Nw w lo l) (hln:l.length≤140737488351232) (hs:shN l) (hT:Tabs w) (hPw:Pw w) (ht:Sl w ta ts) (hn:Sl w na ns) (hr:Vs w ro row)
  (hl:row.length≤140737488351232) (hi6:∀ x∈l,vin x.v) (hir:∀ v∈row,vin v) :
  Calls Tryz.prog 24 #[.slice lo l.length lc,scv ta na ts.length ns.length tc nc,.slice ro row.length rc] w fun e w'=>e=.returned (rs (evR l ts ns row))∧Below w.heap.size w w':=by
 have RI:∀ W,Below w.heap.size w W→Calls Tryz.prog 59 #[.slice lo l.length lc] W fun e w'=>e=.returned (.bool (decide (0<depN mayN l)))∧Below W.heap.size W w':=fun W h=>right_of lo lc l W (hv.later h) hln hs (hT.later h)
 unfold evR
 by_cases hd:0<depN mayN l
 case neg =>
  rw [if_neg (fun h=>hd h.1)]
  rw [decide_eq_false hd] at RI
  exact ev_bad1 lo ta na ro lc tc nc rc l.length ts.length ns.length row.length w RI
 by_cases het:ts.length=row.length
 case neg =>
  rw [if_neg (fun h=>het h.2.1)]
  rw [decide_eq_true hd] at RI
  exact ev_bad2 lo ta na ro lc tc nc rc l.length ts.length ns.length row.length w het RI
 by_cases hen:ns.length=row.length
 case neg =>
  rw [if_neg (fun h=>hen h.2.2.1),het]
  rw [decide_eq_true hd] at RI
  exact ev_bad3 lo ta na ro lc tc nc rc l.length ns.length row.length w hen RI
 by_cases har:row.all vr=true
 case neg =>
  rw [if_neg (fun h=>har h.2.2.2),het,hen]
  rw [decide_eq_true hd] at RI
  have AR:z0n 60 #[.slice ro row.length rc] w (.bool false):=fun W h=>by
   have:=z9v ro rc row W (hT.later h) (hr.later h) (by omega)
   rw [show row.all vr=false by simpa using har] at this
   exact this
  exact ev_bad4 lo ta na ro lc tc nc rc l.length row.length w AR RI
 rw [if_pos ⟨hd,het,hen,har⟩]
 exact eval_good lo ta na ro lc tc nc rc l ts ns row w hv hs hT hPw ht hn hr hd het hen har hl hi6 hir
def scOx0:Oper:=⟨some 3,.buildSlice 45 0 #[],45, "law.go:19",#[],none⟩
def scOx1:Oper:=⟨some 4,.fieldAddr 47 (.tmp 1) 0,0, "law.go:19",#[],none⟩
def scOx2:Oper:=⟨some 5,.load 45 (.tmp 4),45, "law.go:19",#[⟨1,.data⟩],none⟩
def scOx3:Oper:=⟨some 6,.call { callee:=Callee.builtin Builtin.append,args:=#[.tmp 3,.tmp 5],argTypes:=#[45,45] },45, "law.go:19",#[⟨0,.data⟩,⟨2,.data⟩],none⟩
def scOx4:Oper:=⟨some 7,.buildSlice 45 0 #[],45, "law.go:19",#[],none⟩
def scOx5:Oper:=⟨some 8,.fieldAddr 47 (.tmp 1) 1,0, "law.go:19",#[],none⟩
def scOx6:Oper:=⟨some 9,.load 45 (.tmp 8),45, "law.go:19",#[⟨5,.data⟩],none⟩
def scOx7:Oper:=⟨some 10,.call { callee:=Callee.builtin Builtin.append,args:=#[.tmp 7,.tmp 9],argTypes:=#[45,45] },45, "law.go:19",#[⟨4,.data⟩,⟨6,.data⟩,⟨3,.chain⟩],none⟩
def scOx8:Oper:=⟨some 11,.build 50 #[(0,.tmp 6),(1,.tmp 10)],50, "law.go:19",#[⟨3,.data⟩,⟨7,.data⟩],none⟩
def scOx9:Oper:=⟨none,.store 50 (.tmp 2) (.tmp 11),0, "law.go:19",#[⟨8,.data⟩,⟨7,.chain⟩,⟨0,.phase⟩,⟨1,.phase⟩,⟨2,.phase⟩,⟨3,.phase⟩,⟨4,.phase⟩,⟨5,.phase⟩,⟨6,.phase⟩,⟨7,.phase⟩,⟨8,.phase⟩],none⟩
theorem infoStr7:(Tryz.prog.info? 9).map (fun i=>(i.zero,i.size,i.bytes))=some (some (.string ⟨#[]⟩),1,16):=by kernel_rfl
theorem scope_any (ta na:Option Addr) (tc nc:Nat) (ts ns:List (List UInt8)) (w:World) (ht:Sl w ta ts) (hn:Sl w na ns) (ht0:ta=none→ts=[]) (hn0:na=none→ns=[]) (hlt:ts.length*16≤140737488351232) (hln:ns.length*16≤140737488351232) :
  Calls Tryz.prog 21 #[scv ta na ts.length ns.length tc nc] w fun e w'=>(∃ ta' na' tc' nc',e=.returned (scv ta' na' ts.length ns.length tc' nc')∧Sl w' ta' ts∧Sl w' na' ns)∧Below w.heap.size w w':=by
 obtain ⟨i0,hi,hz0,hz1,hz2⟩:=info_parts infoStr7
 obtain ⟨p,hp⟩:∃ p,ts.length=p:=⟨_,rfl⟩
 obtain ⟨q,hq⟩:∃ q,ns.length=q:=⟨_,rfl⟩
 have HT:Hid (ts.length=p):=hp
 have HN:Hid (ns.length=q):=hq
 rw [hp] at hlt
 rw [hq] at hln
 have h1:=Cbox.new w #[.slice ta p tc,.slice na q nc] 47
 have h2:=Cbox.new (w.alloc (.cells #[.slice ta p tc,.slice na q nc] 47)) #[.slice none 0 0,.slice none 0 0] 50
 have B00:Below w.heap.size w ((w.alloc (.cells #[.slice ta p tc,.slice na q nc] 47)).alloc (.cells #[.slice none 0 0,.slice none 0 0] 50)):=((Below.refl _ w).alloc (Nat.le_refl _) _).alloc (by simp) _
 simp only [World.size_alloc] at h2
 have h1':=h1.later ((Below.refl _ _).alloc (Nat.le_refl _) (.cells #[.slice none 0 0,.slice none 0 0] 50))
 have hsz0:((w.alloc (.cells #[.slice ta p tc,.slice na q nc] 47)).alloc (.cells #[.slice none 0 0,.slice none 0 0] 50)).heap.size=w.heap.size+1+1:=by simp
 generalize hw0:((w.alloc (.cells #[.slice ta p tc,.slice na q nc] 47)).alloc (.cells #[.slice none 0 0,.slice none 0 0] 50))=w0 at h1' h2 B00 hsz0
 have Bw0:=B00
 have SRT:Hid (∀ W,Below w0.heap.size w0 W→Src Tryz.prog 1 45 (.slice ta p tc) p (svT ts) W):=fun W h=>by
  have:=src_of_sl (cap:=tc) ((ht.later B00).later h) ht0
  rw [hp] at this
  exact this
 have SRN:Hid (∀ W,Below w0.heap.size w0 W→Src Tryz.prog 1 45 (.slice na q nc) q (svT ns) W):=fun W h=>by
  have:=src_of_sl (cap:=nc) ((hn.later B00).later h) hn0
  rw [hq] at this
  exact this
 have RS:Hid (Cbox w0 w.heap.size #[.slice ta p tc,.slice na q nc] 47):=h1'
 have RB:Hid (Cbox w0 (w.heap.size+1) #[.slice none 0 0,.slice none 0 0] 50):=h2
 have KP:Hid (∀ W,Below w0.heap.size w0 W→(W.cell? ⟨w.heap.size,0,none⟩=some (.slice ta p tc)∧W.cell? ⟨w.heap.size,1,none⟩=some (.slice na q nc))∧Below w.heap.size w W):=fun W h=>⟨⟨(h1'.later h).at 0,(h1'.later h).at 1⟩,z0a B00 h⟩
 rw [hp,hq]
 clear h1 h1' h2 ht hn ht0 hn0 hp hq B00
 have HZ:Hid (w0.heap.size=w.heap.size+1+1):=hsz0
 clear hsz0
 go_enter Tryz.func21,Tryz.ntmps21
 go_upto_region 1 with fail
 try rw [hw0]
 clear hw0
 refine wp_region_held_drew (S:=(fun W=>(W.cell? ⟨w.heap.size,0,none⟩=some (.slice ta p tc)∧W.cell? ⟨w.heap.size,1,none⟩=some (.slice na q nc))∧Below w.heap.size w W)) gK ?_ (fun hHeld=>?_)
 ·((try dsimp only);exact KP.out _ ((Below.refl _ w0).drew))
 refine wpAnyH_take (i:=1) (oi:=scOx1) (v:=?_) rfl gK gK gK (fun _ _ _ h=>h) (Or.inl ⟨by rfl,?_⟩) (by assumption) ?_
 rotate_left
 ·(intro W hSw;(try dsimp only at hSw);try simp only [scOx1];first|(go_simp;done)|(go_simp;with_reducible rfl))
 try simp only [scOx1,Act.put,List.setIfInBounds_toArray,List.set_cons_zero,List.set_cons_succ]
 refine wpAnyH_take (i:=2) (oi:=scOx2) (v:=?_) rfl gK gK gK (fun _ _ _ h=>h) (Or.inl ⟨by rfl,?_⟩) (by assumption) ?_
 rotate_left
 ·(intro W hSw;(try dsimp only at hSw);obtain ⟨⟨e0,e1⟩,_⟩:=hSw;try simp only [scOx2];first|(go_simp;done)|(go_simp;with_reducible rfl))
 try simp only [scOx2,Act.put,List.setIfInBounds_toArray,List.set_cons_zero,List.set_cons_succ]
 refine wpAnyH_take (i:=5) (oi:=scOx5) (v:=?_) rfl gK gK gK (fun _ _ _ h=>h) (Or.inl ⟨by rfl,?_⟩) (by assumption) ?_
 rotate_left
 ·(intro W hSw;(try dsimp only at hSw);try simp only [scOx5];first|(go_simp;done)|(go_simp;with_reducible rfl))
 try simp only [scOx5,Act.put,List.setIfInBounds_toArray,List.set_cons_zero,List.set_cons_succ]
 refine wpAnyH_take (i:=6) (oi:=scOx6) (v:=?_) rfl gK gK gK (fun _ _ _ h=>h) (Or.inl ⟨by rfl,?_⟩) (by assumption) ?_
 rotate_left
 ·(intro W hSw;(try dsimp only at hSw);obtain ⟨⟨e0,e1⟩,_⟩:=hSw;try simp only [scOx6];first|(go_simp;done)|(go_simp;with_reducible rfl))
 try simp only [scOx6,Act.put,List.setIfInBounds_toArray,List.set_cons_zero,List.set_cons_succ]
 refine wpAnyH_ready (rs:=[0,4]) gK (by simp) ?_
 refine AllReadyH.cons (o:=scOx0) rfl (fun K hK=>?_) (AllReadyH.cons (o:=scOx4) rfl (fun K hK=>?_) AllReadyH.nil)
 ·
  try simp only [scOx0]
  go_simp
  refine hK.out _ _ ?_ (fun hHeld=>?_)
  ·((try dsimp only);exact KP.out _ ((Below.refl _ w0).drew.alloc (Nat.le_refl _) (.cells #[] 9)))
  clear hK K
  try simp only [Act.put,List.setIfInBounds_toArray,List.set_cons_zero,List.set_cons_succ]
  have o3:(w0.drew.alloc (.cells #[] 9)).ownsRow w0.heap.size 9 1 (.slice (some ⟨w0.heap.size,0,none⟩) 0 0) 0 []:=World.ownsRow_made w0.drew #[] 0 (Nat.le_refl _) (by decide) (by simp)
  refine wpAnyH_ready (rs:=[3,4]) gK (by simp) ?_
  refine AllReadyH.cons (o:=scOx3) rfl (fun K hK=>?_) (AllReadyH.cons (o:=scOx4) rfl (fun K hK=>?_) AllReadyH.nil)
  ·
   have hbx:Below w0.heap.size w0 _:=((Below.refl _ w0).drew.alloc (Nat.le_refl _) (.cells #[] 9))
   have sz:=hbx.size
   refine z1m (by rfl) _ _ 45 45 (by rfl) w0.heap.size 9 i0 (.string ⟨#[]⟩) 1 16 Tryz.underlying45 hi hz0 hz1 hz2 rfl _ 0 [] (by rfl) o3 _ p (svT ts) (by rfl) (SRT.out _ hbx) (by unfold maxLen;omega) (by omega) sz ?_
   intro v6 w6 o6 g6 a6
   rw [List.nil_append,Nat.zero_add] at o6
   obtain ⟨ta2,tac2,hv2,_⟩:=z2h (l:=ts) (by rw [HT.out];exact o6)
   rw [HT.out] at hv2
   subst hv2
   have hb6:Below w0.heap.size w0 w6:=hbx.grown g6 sz (fun k hk=>(World.ownsRow.lt o3 k hk).1)
   clear hbx
   refine hK.out _ _ ?_ (fun hHeld=>?_)
   ·((try dsimp only);exact KP.out _ hb6)
   clear hK K
   try simp only [scOx3,Act.put,List.setIfInBounds_toArray,List.set_cons_zero,List.set_cons_succ]
   refine wpAnyH_ready (rs:=[4]) gK (by simp) ?_
   refine AllReadyH.cons (o:=scOx4) rfl (fun K hK=>?_) AllReadyH.nil
   try simp only [scOx4]
   go_simp
   refine hK.out _ _ ?_ (fun hHeld=>?_)
   ·((try dsimp only);exact KP.out _ (hb6.alloc hb6.size _))
   clear hK K
   try simp only [Act.put,List.setIfInBounds_toArray,List.set_cons_zero,List.set_cons_succ]
   have o7:(w6.alloc (.cells #[] 9)).ownsRow w0.heap.size 9 1 (.slice (some ⟨w6.heap.size,0,none⟩) 0 0) 0 []:=World.ownsRow_made w6 #[] 0 hb6.size (by decide) (by simp)
   have o6a:=World.ownsRow.alloc o6 (.cells #[] 9)
   refine wpAnyH_ready (rs:=[7]) gK (by simp) ?_
   refine AllReadyH.cons (o:=scOx7) rfl (fun K hK=>?_) AllReadyH.nil
   have hbx:Below w0.heap.size w0 _:=(hb6.alloc hb6.size (.cells #[] 9))
   have sz:=hbx.size
   refine z1m (by rfl) _ _ 45 45 (by rfl) w0.heap.size 9 i0 (.string ⟨#[]⟩) 1 16 Tryz.underlying45 hi hz0 hz1 hz2 rfl _ 0 [] (by rfl) o7 _ q (svT ns) (by rfl) (SRN.out _ hbx) (by unfold maxLen;omega) (by omega) sz ?_
   intro v10 w10 o10 g10 a10
   rw [List.nil_append,Nat.zero_add] at o10
   obtain ⟨na2,nac2,hv2,_⟩:=z2h (l:=ns) (by rw [HN.out];exact o10)
   rw [HN.out] at hv2
   subst hv2
   have hb10:Below w0.heap.size w0 w10:=hbx.grown g10 sz (fun k hk=>(World.ownsRow.lt o7 k hk).1)
   have o6k:=z6v o6a g10 (fun k hk e=>by have h1:=(World.ownsRow.lt o6 k hk).2;have h2:k=w6.heap.size:=Option.some.inj e;omega)
   have bx:=RB.out.later hb10
   have z0:=bx.at 0
   have z1:=bx.at 1
   have zf0:=bx.free 0
   have zf1:=bx.free 1
   have zl:=bx.lt
   clear hbx
   refine hK.out _ _ ?_ (fun hHeld=>?_)
   ·((try dsimp only);exact KP.out _ hb10)
   clear hK K
   try simp only [scOx7,Act.put,List.setIfInBounds_toArray,List.set_cons_zero,List.set_cons_succ]
   refine wpAnyH_take (i:=8) (oi:=scOx8) (v:=?_) rfl gK gK gK (fun _ _ _ h=>h) (Or.inl ⟨by rfl,?_⟩) (by assumption) ?_
   rotate_left
   ·(intro W hSw;(try dsimp only at hSw);try simp only [scOx8];first|(go_simp;done)|(go_simp;with_reducible rfl))
   try simp only [scOx8,Act.put,List.setIfInBounds_toArray,List.set_cons_zero,List.set_cons_succ]
   refine wpAnyH_ready (rs:=[9]) gK (by simp) ?_
   refine AllReadyH.cons (o:=scOx9) rfl (fun K hK=>?_) AllReadyH.nil
   try simp only [scOx9]
   go_simp
   refine hK.out _ _ ?_ (fun hHeld=>?_)
   ·((try dsimp only);exact ⟨⟨by simp (maxDischargeDepth:=12) [go_sem,(RS.out.later hb10).at 0],by simp (maxDischargeDepth:=12) [go_sem,(RS.out.later hb10).at 1]⟩,((z0a Bw0 hb10).setCell (p:=⟨w.heap.size+1,0,none⟩) (by simp) _).setCell (p:=⟨w.heap.size+1,1,none⟩) (by simp) _⟩)
   clear hK K
   try simp only [Act.put,List.setIfInBounds_toArray,List.set_cons_zero,List.set_cons_succ]
   refine wpAnyH_done gK ?_ _
   have o6s:=z4d (z4d o6k ⟨w.heap.size+1,0,none⟩ (.slice ta2 p tac2) (by rw [HZ.out];simp)) ⟨w.heap.size+1,1,none⟩ (.slice na2 q nac2) (by rw [HZ.out];simp)
   have o10s:=z4d (z4d o10 ⟨w.heap.size+1,0,none⟩ (.slice ta2 p tac2) (by rw [HZ.out];simp)) ⟨w.heap.size+1,1,none⟩ (.slice na2 q nac2) (by rw [HZ.out];simp)
   obtain ⟨ta3,tc3,e3,st3⟩:=z2h (l:=ts) (by rw [HT.out];exact o6s)
   obtain ⟨na3,nc3,e4,sn3⟩:=z2h (l:=ns) (by rw [HN.out];exact o10s)
   simp only [Value.slice.injEq] at e3 e4
   obtain ⟨rfl,_,rfl⟩:=e3
   obtain ⟨rfl,_,rfl⟩:=e4
   have BF:=((z0a Bw0 hb10).setCell (p:=⟨w.heap.size+1,0,none⟩) (by simp) (.slice ta2 p tac2)).setCell (p:=⟨w.heap.size+1,1,none⟩) (by simp) (.slice na2 q nac2)
   clear o6s o10s o6k o10 o6 KP
   go_wp2
   refine bodyPost_ret_by (v:=.agg #[.slice ta2 p tac2,.slice na2 q nac2]) ?_ rfl ⟨⟨ta2,na2,tac2,nac2,rfl,st3,sn3⟩,BF⟩
   simp [results,Tryz.results21,go_sem,z0,z1]
  ·
   try simp only [scOx4]
   go_simp
   refine hK.out _ _ ?_ (fun hHeld=>?_)
   ·((try dsimp only);exact KP.out _ (((Below.refl _ w0).drew.alloc (Nat.le_refl _) (.cells #[] 9)).alloc (by simp) (.cells #[] 9)))
   clear hK K
   try simp only [Act.put,List.setIfInBounds_toArray,List.set_cons_zero,List.set_cons_succ]
   have o7a:((w0.drew.alloc (.cells #[] 9)).alloc (.cells #[] 9)).ownsRow w0.heap.size 9 1 (.slice (some ⟨w0.heap.size+1,0,none⟩) 0 0) 0 []:=by have:=World.ownsRow_made (base:=w0.heap.size) (e:=9) (size:=1) (w0.drew.alloc (.cells #[] 9)) #[] 0 (by simp) (by decide) (by simp);simpa using this
   have o3a:=World.ownsRow.alloc o3 (.cells #[] 9)
   refine wpAnyH_ready (rs:=[3]) gK (by simp) ?_
   refine AllReadyH.cons (o:=scOx3) rfl (fun K hK=>?_) AllReadyH.nil
   have hbx:Below w0.heap.size w0 _:=(((Below.refl _ w0).drew.alloc (Nat.le_refl _) (.cells #[] 9)).alloc (by simp) (.cells #[] 9))
   have sz:=hbx.size
   refine z1m (by rfl) _ _ 45 45 (by rfl) w0.heap.size 9 i0 (.string ⟨#[]⟩) 1 16 Tryz.underlying45 hi hz0 hz1 hz2 rfl _ 0 [] (by rfl) o3a _ p (svT ts) (by rfl) (SRT.out _ hbx) (by unfold maxLen;omega) (by omega) sz ?_
   intro v6 w6 o6 g6 a6
   rw [List.nil_append,Nat.zero_add] at o6
   obtain ⟨ta2,tac2,hv2,_⟩:=z2h (l:=ts) (by rw [HT.out];exact o6)
   rw [HT.out] at hv2
   subst hv2
   have hb6:Below w0.heap.size w0 w6:=hbx.grown g6 sz (fun k hk=>(World.ownsRow.lt o3a k hk).1)
   have o7b:=z6v o7a g6 (fun k hk e=>by have h1:k=w0.heap.size+1:=(Option.some.inj hk).symm;have h2:k=w0.heap.size:=Option.some.inj e;omega)
   clear hbx
   refine hK.out _ _ ?_ (fun hHeld=>?_)
   ·((try dsimp only);exact KP.out _ hb6)
   clear hK K
   try simp only [scOx3,Act.put,List.setIfInBounds_toArray,List.set_cons_zero,List.set_cons_succ]
   refine wpAnyH_ready (rs:=[7]) gK (by simp) ?_
   refine AllReadyH.cons (o:=scOx7) rfl (fun K hK=>?_) AllReadyH.nil
   have hbx:Below w0.heap.size w0 _:=hb6
   have sz:=hbx.size
   refine z1m (by rfl) _ _ 45 45 (by rfl) w0.heap.size 9 i0 (.string ⟨#[]⟩) 1 16 Tryz.underlying45 hi hz0 hz1 hz2 rfl _ 0 [] (by rfl) o7b _ q (svT ns) (by rfl) (SRN.out _ hbx) (by unfold maxLen;omega) (by omega) sz ?_
   intro v10 w10 o10 g10 a10
   rw [List.nil_append,Nat.zero_add] at o10
   obtain ⟨na2,nac2,hv2,_⟩:=z2h (l:=ns) (by rw [HN.out];exact o10)
   rw [HN.out] at hv2
   subst hv2
   have hb10:Below w0.heap.size w0 w10:=hbx.grown g10 sz (fun k hk=>(World.ownsRow.lt o7b k hk).1)
   have o6k:=z6v o6 g10 (fun k hk e=>by
    have h2:k=w0.heap.size+1:=Option.some.inj e
    rcases a6 with h|h
    ·have h1:some k=some (w0.heap.size):=hk.symm.trans h
     have:=Option.some.inj h1
     omega
    ·have h1:some k=some (((w0.drew.alloc (.cells #[] 9)).alloc (.cells #[] 9)).heap.size):=hk.symm.trans h
     have:=Option.some.inj h1
     simp at this
     omega)
   have bx:=RB.out.later hb10
   have z0:=bx.at 0
   have z1:=bx.at 1
   have zf0:=bx.free 0
   have zf1:=bx.free 1
   have zl:=bx.lt
   clear hbx
   refine hK.out _ _ ?_ (fun hHeld=>?_)
   ·((try dsimp only);exact KP.out _ hb10)
   clear hK K
   try simp only [scOx7,Act.put,List.setIfInBounds_toArray,List.set_cons_zero,List.set_cons_succ]
   refine wpAnyH_take (i:=8) (oi:=scOx8) (v:=?_) rfl gK gK gK (fun _ _ _ h=>h) (Or.inl ⟨by rfl,?_⟩) (by assumption) ?_
   rotate_left
   ·(intro W hSw;(try dsimp only at hSw);try simp only [scOx8];first|(go_simp;done)|(go_simp;with_reducible rfl))
   try simp only [scOx8,Act.put,List.setIfInBounds_toArray,List.set_cons_zero,List.set_cons_succ]
   refine wpAnyH_ready (rs:=[9]) gK (by simp) ?_
   refine AllReadyH.cons (o:=scOx9) rfl (fun K hK=>?_) AllReadyH.nil
   try simp only [scOx9]
   go_simp
   refine hK.out _ _ ?_ (fun hHeld=>?_)
   ·((try dsimp only);exact ⟨⟨by simp (maxDischargeDepth:=12) [go_sem,(RS.out.later hb10).at 0],by simp (maxDischargeDepth:=12) [go_sem,(RS.out.later hb10).at 1]⟩,((z0a Bw0 hb10).setCell (p:=⟨w.heap.size+1,0,none⟩) (by simp) _).setCell (p:=⟨w.heap.size+1,1,none⟩) (by simp) _⟩)
   clear hK K
   try simp only [Act.put,List.setIfInBounds_toArray,List.set_cons_zero,List.set_cons_succ]
   refine wpAnyH_done gK ?_ _
   have o6s:=z4d (z4d o6k ⟨w.heap.size+1,0,none⟩ (.slice ta2 p tac2) (by rw [HZ.out];simp)) ⟨w.heap.size+1,1,none⟩ (.slice na2 q nac2) (by rw [HZ.out];simp)
   have o10s:=z4d (z4d o10 ⟨w.heap.size+1,0,none⟩ (.slice ta2 p tac2) (by rw [HZ.out];simp)) ⟨w.heap.size+1,1,none⟩ (.slice na2 q nac2) (by rw [HZ.out];simp)
   obtain ⟨ta3,tc3,e3,st3⟩:=z2h (l:=ts) (by rw [HT.out];exact o6s)
   obtain ⟨na3,nc3,e4,sn3⟩:=z2h (l:=ns) (by rw [HN.out];exact o10s)
   simp only [Value.slice.injEq] at e3 e4
   obtain ⟨rfl,_,rfl⟩:=e3
   obtain ⟨rfl,_,rfl⟩:=e4
   have BF:=((z0a Bw0 hb10).setCell (p:=⟨w.heap.size+1,0,none⟩) (by simp) (.slice ta2 p tac2)).setCell (p:=⟨w.heap.size+1,1,none⟩) (by simp) (.slice na2 q nac2)
   clear o6s o10s o6k o10 o6 KP
   go_wp2
   refine bodyPost_ret_by (v:=.agg #[.slice ta2 p tac2,.slice na2 q nac2]) ?_ rfl ⟨⟨ta2,na2,tac2,nac2,rfl,st3,sn3⟩,BF⟩
   simp [results,Tryz.results21,go_sem,z0,z1]
 ·
  try simp only [scOx4]
  go_simp
  refine hK.out _ _ ?_ (fun hHeld=>?_)
  ·((try dsimp only);exact KP.out _ ((Below.refl _ w0).drew.alloc (Nat.le_refl _) (.cells #[] 9)))
  clear hK K
  try simp only [Act.put,List.setIfInBounds_toArray,List.set_cons_zero,List.set_cons_succ]
  have o7:(w0.drew.alloc (.cells #[] 9)).ownsRow w0.heap.size 9 1 (.slice (some ⟨w0.heap.size,0,none⟩) 0 0) 0 []:=World.ownsRow_made w0.drew #[] 0 (Nat.le_refl _) (by decide) (by simp)
  refine wpAnyH_ready (rs:=[0]) gK (by simp) ?_
  refine AllReadyH.cons (o:=scOx0) rfl (fun K hK=>?_) AllReadyH.nil
  try simp only [scOx0]
  go_simp
  refine hK.out _ _ ?_ (fun hHeld=>?_)
  ·((try dsimp only);exact KP.out _ (((Below.refl _ w0).drew.alloc (Nat.le_refl _) (.cells #[] 9)).alloc (by simp) (.cells #[] 9)))
  clear hK K
  try simp only [Act.put,List.setIfInBounds_toArray,List.set_cons_zero,List.set_cons_succ]
  have o3:((w0.drew.alloc (.cells #[] 9)).alloc (.cells #[] 9)).ownsRow w0.heap.size 9 1 (.slice (some ⟨w0.heap.size+1,0,none⟩) 0 0) 0 []:=by have:=World.ownsRow_made (base:=w0.heap.size) (e:=9) (size:=1) (w0.drew.alloc (.cells #[] 9)) #[] 0 (by simp) (by decide) (by simp);simpa using this
  have o7a:=World.ownsRow.alloc o7 (.cells #[] 9)
  refine wpAnyH_ready (rs:=[3]) gK (by simp) ?_
  refine AllReadyH.cons (o:=scOx3) rfl (fun K hK=>?_) AllReadyH.nil
  have hbx:Below w0.heap.size w0 _:=(((Below.refl _ w0).drew.alloc (Nat.le_refl _) (.cells #[] 9)).alloc (by simp) (.cells #[] 9))
  have sz:=hbx.size
  refine z1m (by rfl) _ _ 45 45 (by rfl) w0.heap.size 9 i0 (.string ⟨#[]⟩) 1 16 Tryz.underlying45 hi hz0 hz1 hz2 rfl _ 0 [] (by rfl) o3 _ p (svT ts) (by rfl) (SRT.out _ hbx) (by unfold maxLen;omega) (by omega) sz ?_
  intro v6 w6 o6 g6 a6
  rw [List.nil_append,Nat.zero_add] at o6
  obtain ⟨ta2,tac2,hv2,_⟩:=z2h (l:=ts) (by rw [HT.out];exact o6)
  rw [HT.out] at hv2
  subst hv2
  have hb6:Below w0.heap.size w0 w6:=hbx.grown g6 sz (fun k hk=>(World.ownsRow.lt o3 k hk).1)
  have o7b:=z6v o7a g6 (fun k hk e=>by have h1:k=w0.heap.size:=(Option.some.inj hk).symm;have h2:k=w0.heap.size+1:=Option.some.inj e;omega)
  clear hbx
  refine hK.out _ _ ?_ (fun hHeld=>?_)
  ·((try dsimp only);exact KP.out _ hb6)
  clear hK K
  try simp only [scOx3,Act.put,List.setIfInBounds_toArray,List.set_cons_zero,List.set_cons_succ]
  refine wpAnyH_ready (rs:=[7]) gK (by simp) ?_
  refine AllReadyH.cons (o:=scOx7) rfl (fun K hK=>?_) AllReadyH.nil
  have hbx:Below w0.heap.size w0 _:=hb6
  have sz:=hbx.size
  refine z1m (by rfl) _ _ 45 45 (by rfl) w0.heap.size 9 i0 (.string ⟨#[]⟩) 1 16 Tryz.underlying45 hi hz0 hz1 hz2 rfl _ 0 [] (by rfl) o7b _ q (svT ns) (by rfl) (SRN.out _ hbx) (by unfold maxLen;omega) (by omega) sz ?_
  intro v10 w10 o10 g10 a10
  rw [List.nil_append,Nat.zero_add] at o10
  obtain ⟨na2,nac2,hv2,_⟩:=z2h (l:=ns) (by rw [HN.out];exact o10)
  rw [HN.out] at hv2
  subst hv2
  have hb10:Below w0.heap.size w0 w10:=hbx.grown g10 sz (fun k hk=>(World.ownsRow.lt o7b k hk).1)
  have o6k:=z6v o6 g10 (fun k hk e=>by
   have h2:k=w0.heap.size:=Option.some.inj e
   rcases a6 with h|h
   ·have h1:some k=some (w0.heap.size+1):=hk.symm.trans h
    have:=Option.some.inj h1
    omega
   ·have h1:some k=some (((w0.drew.alloc (.cells #[] 9)).alloc (.cells #[] 9)).heap.size):=hk.symm.trans h
    have:=Option.some.inj h1
    simp at this
    omega)
  have bx:=RB.out.later hb10
  have z0:=bx.at 0
  have z1:=bx.at 1
  have zf0:=bx.free 0
  have zf1:=bx.free 1
  have zl:=bx.lt
  clear hbx
  refine hK.out _ _ ?_ (fun hHeld=>?_)
  ·((try dsimp only);exact KP.out _ hb10)
  clear hK K
  try simp only [scOx7,Act.put,List.setIfInBounds_toArray,List.set_cons_zero,List.set_cons_succ]
  refine wpAnyH_take (i:=8) (oi:=scOx8) (v:=?_) rfl gK gK gK (fun _ _ _ h=>h) (Or.inl ⟨by rfl,?_⟩) (by assumption) ?_
  rotate_left
  ·(intro W hSw;(try dsimp only at hSw);try simp only [scOx8];first|(go_simp;done)|(go_simp;with_reducible rfl))
  try simp only [scOx8,Act.put,List.setIfInBounds_toArray,List.set_cons_zero,List.set_cons_succ]
  refine wpAnyH_ready (rs:=[9]) gK (by simp) ?_
  refine AllReadyH.cons (o:=scOx9) rfl (fun K hK=>?_) AllReadyH.nil
  try simp only [scOx9]
  go_simp
  refine hK.out _ _ ?_ (fun hHeld=>?_)
  ·((try dsimp only);exact ⟨⟨by simp (maxDischargeDepth:=12) [go_sem,(RS.out.later hb10).at 0],by simp (maxDischargeDepth:=12) [go_sem,(RS.out.later hb10).at 1]⟩,((z0a Bw0 hb10).setCell (p:=⟨w.heap.size+1,0,none⟩) (by simp) _).setCell (p:=⟨w.heap.size+1,1,none⟩) (by simp) _⟩)
  clear hK K
  try simp only [Act.put,List.setIfInBounds_toArray,List.set_cons_zero,List.set_cons_succ]
  refine wpAnyH_done gK ?_ _
  have o6s:=z4d (z4d o6k ⟨w.heap.size+1,0,none⟩ (.slice ta2 p tac2) (by rw [HZ.out];simp)) ⟨w.heap.size+1,1,none⟩ (.slice na2 q nac2) (by rw [HZ.out];simp)
  have o10s:=z4d (z4d o10 ⟨w.heap.size+1,0,none⟩ (.slice ta2 p tac2) (by rw [HZ.out];simp)) ⟨w.heap.size+1,1,none⟩ (.slice na2 q nac2) (by rw [HZ.out];simp)
  obtain ⟨ta3,tc3,e3,st3⟩:=z2h (l:=ts) (by rw [HT.out];exact o6s)
  obtain ⟨na3,nc3,e4,sn3⟩:=z2h (l:=ns) (by rw [HN.out];exact o10s)
  simp only [Value.slice.injEq] at e3 e4
  obtain ⟨rfl,_,rfl⟩:=e3
  obtain ⟨rfl,_,rfl⟩:=e4
  have BF:=((z0a Bw0 hb10).setCell (p:=⟨w.heap.size+1,0,none⟩) (by simp) (.slice ta2 p tac2)).setCell (p:=⟨w.heap.size+1,1,none⟩) (by simp) (.slice na2 q nac2)
  clear o6s o10s o6k o10 o6 KP
  go_wp2
  refine bodyPost_ret_by (v:=.agg #[.slice ta2 p tac2,.slice na2 q nac2]) ?_ rfl ⟨⟨ta2,na2,tac2,nac2,rfl,st3,sn3⟩,BF⟩
  simp [results,Tryz.results21,go_sem,z0,z1]
end Go.Proofs.YtibbenhplmmmiaaGreatDoor
