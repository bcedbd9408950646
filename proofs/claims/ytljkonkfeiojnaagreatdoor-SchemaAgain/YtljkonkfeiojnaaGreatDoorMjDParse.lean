/-
  The document's Print: the text of any decimal.
  What the program's Print writes, from the last digit on, is the text.
  A scope that is entered ahead of its one label and jumps back to it a few times: its passes, one behind the other. Nothing of the program is in it.
  Toward the program's Print: passes by induction, the room.
  The program's tellDigits: the number of the digits that a text begins with, and how many they are.
  Texts of decimals there and back, as lists of bytes: what is printed is read as it was, what is read is printed as it was. Nothing of the program is in it.
  The contract of decimal.Parse: for every text.
-/
import Derived.Test.YtljkonkfeiojnaaGreatDoorMhDText1
import Derived.Test.YtljkonkfeiojnaaGreatDoorDPower
import Derived.Deep.RegionHeld2
import Derived.ScopeJumps
import Derived.Tactics
import Derived.Test.YtljkonkfeiojnaaGreatDoorDArith
set_option maxHeartbeats 4000000
set_option maxRecDepth 20000
namespace Go.Proofs.YtljkonkfeiojnaaGreatDoor
open Go.RowKit
attribute [local go_sem] z0f z0b z0c z0e z0m z0k z0h z0d z0g
def pad (s:Nat) (l:List UInt8):List UInt8:=List.replicate (s+1 - l.length) 48++l
theorem z9t (s:Nat) (l:List UInt8) (h:s<l.length):pad s l=l:=by
 unfold pad
 rw [show s+1 - l.length=0 by omega];rfl
theorem pad_len (s:Nat) (l:List UInt8):(pad s l).length=max (s+1) l.length:=by
 unfold pad
 rw [List.length_append,List.length_replicate];omega
def z2z (u:Int) (s:Nat):List UInt8 :=
 (if u<0 then [45] else [])++(if s=0 then pad 0 (digs u.natAbs) else (pad s (digs u.natAbs)).take ((pad s (digs u.natAbs)).length - s)++46::(pad s (digs u.natAbs)).drop ((pad s (digs u.natAbs)).length - s))
end Go.Proofs.YtljkonkfeiojnaaGreatDoor

namespace Go.Proofs.YtljkonkfeiojnaaGreatDoor
def told (s k x:Nat) (t:List UInt8):List UInt8:=UInt8.ofNat (48+x%10)::(if 0<k∧k=s then 46::t else t)
def z1m (s:Nat):Nat→Nat→Nat→List UInt8→List UInt8
 | 0,_,_,t=>t
 | f+1,k,x,t=>if 0<x / 10∨k+1≤s then z1m s f (k+1) (x / 10) (told s k x t) else told s k x t
def z5p:Nat→Nat→List UInt8
 | 0,_=>[]
 | n+1,x=>z5p n (x / 10)++[UInt8.ofNat (48+x%10)]
theorem digsN_len (n:Nat):∀ x,(z5p n x).length=n:=by
 induction n with
 | zero=>intro x;rfl
 | succ n ih=>intro x;simp [z5p,ih]
theorem pad_digs (s:Nat):∀ x,pad s (digs x)=z5p (max (s+1) (digs x).length) x:=by
 induction s with
 | zero =>
  intro x
  have h1:1≤(digs x).length:=by
   by_cases h:x<10
   ·rw [z1k x h];simp
   ·rw [z3c x h];simp
  rw [z9t 0 _ (by omega),Nat.max_eq_right (by omega)]
  clear h1
  induction x using Nat.strongRecOn with
  | _ x ih =>
   by_cases h:x<10
   ·rw [z1k x h]
    show _=z5p 0 (x / 10)++[UInt8.ofNat (48+x%10)]
    rw [Nat.mod_eq_of_lt h];rfl
   ·have hb:=z3c x h
    have e:(digs x).length=(digs (x / 10)).length+1:=by rw [hb];simp
    rw [e]
    show digs x=z5p _ (x / 10)++[_]
    rw [← ih (x / 10) (by omega)]
    exact hb
 | succ s ih =>
  intro x
  by_cases h:x<10
  ·have e1:pad (s+1) (digs x)=pad s (digs 0)++[UInt8.ofNat (48+x%10)]:=by
    rw [z1k x h,z1k 0 (by decide),Nat.mod_eq_of_lt h]
    unfold pad
    simp only [List.length_cons,List.length_nil]
    rw [show s+1+1 - (0+1)=(s+1 - (0+1))+1 by omega,List.replicate_succ']
    rfl
   rw [e1,ih 0]
   have e2:(digs x).length=1:=by rw [z1k x h];rfl
   have e3:(digs 0).length=1:=by rw [z1k 0 (by decide)];rfl
   rw [e2,e3,Nat.max_eq_left (by omega),Nat.max_eq_left (by omega)]
   show _=z5p (s+1) (x / 10)++[_]
   rw [show x / 10=0 by omega]
  ·have e1:pad (s+1) (digs x)=pad s (digs (x / 10))++[UInt8.ofNat (48+x%10)]:=by
    rw [z3c x h]
    unfold pad
    simp only [List.length_append,List.length_cons,List.length_nil,Nat.zero_add]
    rw [show s+1+1 - ((digs (x / 10)).length+1)=s+1 - (digs (x / 10)).length by omega,List.append_assoc]
   rw [e1,ih (x / 10)]
   have e2:(digs x).length=(digs (x / 10)).length+1:=by rw [z3c x h];simp
   rw [e2,show max (s+1+1) ((digs (x / 10)).length+1)=max (s+1) (digs (x / 10)).length+1 by omega]
   rfl
theorem z5q (x:Nat):1≤(digs x).length:=by
 by_cases h:x<10
 ·rw [z1k x h];simp
 ·rw [z3c x h];simp
theorem digsN_add (a b:Nat):∀ x,z5p (a+b) x=z5p a (x / 10^b)++z5p b x:=by
 induction b with
 | zero=>intro x;simp [z5p]
 | succ b ih =>
  intro x
  show z5p (a+b) (x / 10)++[_]=_++(z5p b (x / 10)++[_])
  rw [ih (x / 10),Nat.div_div_eq_div_mul,Nat.pow_succ,Nat.mul_comm 10,List.append_assoc]
theorem digs_digsN (x:Nat):digs x=z5p (digs x).length x:=by
 have h:=pad_digs 0 x
 rw [z9t 0 _ (z5q x),Nat.max_eq_right (z5q x)] at h
 exact h
theorem digs_cut (s:Nat):∀ x,(digs (x / 10^s)).length=max 1 ((digs x).length - s):=by
 induction s with
 | zero=>intro x;have:=z5q x;simp;omega
 | succ s ih =>
  intro x
  rw [Nat.pow_succ,Nat.mul_comm,← Nat.div_div_eq_div_mul,ih (x / 10)]
  by_cases h:x<10
  ·rw [show x / 10=0 by omega,z1k 0 (by decide),z1k x h];simp
  ·have e:(digs x).length=(digs (x / 10)).length+1:=by rw [z3c x h];simp
   omega
theorem z8e (s:Nat) (f:Nat):∀ k x t,(s<k∨s=0)→(digs x).length≤f→z1m s f k x t=digs x++t:=by
 induction f with
 | zero=>intro k x t _ h;have:=z5q x;omega
 | succ f ih =>
  intro k x t hk hf
  have hp:¬ (0<k∧k=s):=by omega
  unfold z1m told
  rw [if_neg hp]
  by_cases h:x<10
  ·rw [if_neg (by omega),z1k x h,Nat.mod_eq_of_lt h];rfl
  ·have hb:=z3c x h
   have e:(digs x).length=(digs (x / 10)).length+1:=by rw [hb];simp
   rw [if_pos (.inl (by omega)),ih (k+1) (x / 10) _ (by omega) (by omega),hb,List.append_assoc];rfl
theorem written_point (s f x:Nat) (t:List UInt8) (hs:0<s) (hf:(digs x).length≤f):z1m s f s x t=digs x++46::t:=by
 cases f with
 | zero=>have:=z5q x;omega
 | succ f =>
  unfold z1m told
  rw [if_pos (show 0<s∧s=s from ⟨hs,rfl⟩)]
  by_cases h:x<10
  ·rw [if_neg (by omega),z1k x h,Nat.mod_eq_of_lt h];rfl
  ·have hb:=z3c x h
   have e:(digs x).length=(digs (x / 10)).length+1:=by rw [hb];simp
   rw [if_pos (.inl (by omega)),z8e s f (s+1) (x / 10) _ (.inl (by omega)) (by omega),hb,List.append_assoc];rfl
theorem written_part (s f : Nat) (hs : 0 < s) (j : Nat) : ∀ k x t, k + j = s → (digs (x / 10 ^ j)).length ≤ f → z1m s (f + j) k x t = digs (x / 10 ^ j) ++ 46 :: (z5p j x ++ t) := by
  induction j with
  | zero => intro k x t hk hf; obtain rfl : k = s := by omega
            rw [Nat.pow_zero, Nat.div_one] at hf ⊢
            exact written_point k f x t hs hf
  | succ j ih =>
    intro k x t hk hf
    have hp : ¬ (0 < k ∧ k = s) := by omega
    show z1m s (f + j + 1) k x t = _
    unfold z1m told
    rw [if_neg hp, if_pos (.inr (by omega))]
    have e : x / 10 ^ (j + 1) = x / 10 / 10 ^ j := by rw [Nat.pow_succ, Nat.mul_comm, ← Nat.div_div_eq_div_mul]
    rw [e] at hf ⊢
    rw [ih (k + 1) (x / 10) _ (by omega) hf]
    simp [z5p]
theorem z9g (s x f:Nat) (hf:(digs x).length+s+1≤f) :
  z1m s f 0 x []=if s=0 then pad 0 (digs x) else (pad s (digs x)).take ((pad s (digs x)).length - s)++46::(pad s (digs x)).drop ((pad s (digs x)).length - s):=by
 by_cases h:s=0
 ·rw [if_pos h,z8e s f 0 x [] (.inr h) (by omega),z9t 0 _ (z5q x),List.append_nil]
 ·rw [if_neg h]
  have hc:=digs_cut s x
  obtain ⟨g,rfl⟩:∃ g,f=g+s:=⟨f - s,by omega⟩
  rw [written_part s g (by omega) s 0 x [] (by omega) (by rw [hc];omega),List.append_nil]
  have hN:max (s+1) (digs x).length=(digs (x / 10^s)).length+s:=by rw [hc];omega
  have e:pad s (digs x)=digs (x / 10^s)++z5p s x:=by rw [pad_digs,hN,digsN_add,← digs_digsN]
  rw [e,List.length_append,digsN_len,Nat.add_sub_cancel,List.take_left,List.drop_left]
def passes (P:Program) (l:Nat) (rest:Code) (Q:Exit→Act→World→Prop):Nat→Act→World→Prop
 | 0,_,_=>False
 | n+1,a,w=>rest.wp P (Exit.jump l (passes P l rest Q n) Q) a w
theorem z2b {P:Program} {a:Act} {w:World} {Q:Exit→Act→World→Prop} {c rest:Code} (l n:Nat) (hf:findLabel c l=some rest)
  (first:c.wp P (Exit.jump l (passes P l rest Q n) Q) a w):(Code.scope c).wp P Q a w:=by
 intro b k cs
 have hg:gotoIn l (.inScope c::k)=some (.code rest::.inScope c::k):=by simp [gotoIn,hf]
 have key:∀ n a w,passes P l rest Q n a w→∃ e a' w',Q e a' w'∧Arrives P (lone (b.at a (.code rest::.inScope c::k)) cs w) b k cs e a' w':=by
  intro n
  induction n with
  | zero=>intro a w h;exact h.elim
  | succ n ih =>
   intro a w hJ
   obtain ⟨e,a₁,w₁,hq,harr⟩:=hJ b (.inScope c::k) cs
   cases e with
   | normal=>exact ⟨.normal,a₁,w₁,hq,Steps.trans harr (.one step_inScope)⟩
   | exit id=>exact ⟨.exit id,a₁,w₁,hq,fun k' hk=>harr k' (by simp [exitTo,hk])⟩
   | goto l' =>
    obtain ⟨rfl,hJ'⟩:=hq
    obtain ⟨e₂,a₂,w₂,hq₂,harr₂⟩:=ih a₁ w₁ hJ'
    exact ⟨e₂,a₂,w₂,hq₂,.of_steps (harr _ hg) harr₂⟩
   | ret=>exact ⟨_,a₁,w₁,hq,harr⟩
   | panic ch=>exact ⟨_,a₁,w₁,hq,harr⟩
   | outgrown=>exact ⟨_,a₁,w₁,hq,harr⟩
 obtain ⟨e,a₁,w₁,hq,harr⟩:=first b (.inScope c::k) cs
 cases e with
 | normal=>exact ⟨.normal,a₁,w₁,hq,.head step_scope (Steps.trans harr (.one step_inScope))⟩
 | exit id=>exact ⟨.exit id,a₁,w₁,hq,fun k' hk=>.head step_scope (harr k' (by simp [exitTo,hk]))⟩
 | goto l' =>
  obtain ⟨rfl,hJ'⟩:=hq
  obtain ⟨e₂,a₂,w₂,hq₂,harr₂⟩:=key _ a₁ w₁ hJ'
  exact ⟨e₂,a₂,w₂,hq₂,.of_steps (.head step_scope (harr _ hg)) harr₂⟩
 | ret=>exact ⟨_,a₁,w₁,hq,.of_steps (.one step_scope) harr⟩
 | panic ch=>exact ⟨_,a₁,w₁,hq,.of_steps (.one step_scope) harr⟩
 | outgrown=>exact ⟨_,a₁,w₁,hq,.of_steps (.one step_scope) harr⟩
end Go.Proofs.YtljkonkfeiojnaaGreatDoor

namespace Go.Proofs.YtljkonkfeiojnaaGreatDoor
open Go.RowKit
theorem z6x {P:Program} {l:Nat} {body:Code} {Q:Exit→Act→World→Prop} (R:Nat→Act→World→Prop) (none0:∀ a w,¬ R 0 a w)
  (step:∀ (f:Nat) (K:Act→World→Prop),(∀ a w,R f a w→K a w)→∀ a w,R (f+1) a w→body.wp P (Exit.jump l K Q) a w) (F:Nat) {a:Act} {w:World} (h:R (F+1) a w) :
  body.wp P (Exit.jump l (passes P l (Code.skip.seq body) Q F) Q) a w:=by
 refine step F _ ?_ a w h
 clear h
 induction F with
 | zero=>intro a w h;exact absurd h (none0 a w)
 | succ F ih=>intro a w h;exact wp_seq (wp_skip (step F _ ih a w h))
def Room (C:Array Value) (t:List UInt8) (j:Nat):Prop :=
 C.size=21∧j+t.length=21∧(∀ i,i<21→∃ y:UInt8,C[i]?=some (.int .u8 (y.toNat:Int)))∧∀ i (h:i<t.length),C[j+i]?=some (.int .u8 (t[i].toNat:Int))
theorem Room.cons {C:Array Value} {t:List UInt8} {j:Nat} (h:Room C t (j+1)) (y:UInt8):Room (C.setIfInBounds j (.int .u8 (y.toNat:Int))) (y::t) j:=by
 obtain ⟨h1,h2,h3,h4⟩:=h
 refine ⟨by simpa using h1,by rw [List.length_cons];omega,fun i hi=>?_,fun i hi=>?_⟩
 ·by_cases e:i=j
  ·subst e;exact ⟨y,by rw [Array.getElem?_setIfInBounds_self,if_pos (by omega)]⟩
  ·obtain ⟨z,hz⟩:=h3 i hi
   exact ⟨z,by rw [Array.getElem?_setIfInBounds_ne (by omega)];exact hz⟩
 ·cases i with
  | zero=>rw [Nat.add_zero,Array.getElem?_setIfInBounds_self,if_pos (by omega)];rfl
  | succ i =>
   rw [Array.getElem?_setIfInBounds_ne (by omega)]
   have:=h4 i (by simpa using hi)
   rw [show j+1+i=j+(i+1) by omega] at this
   exact this
theorem z6z (V:World) (n:Nat) (C:Array Value) (t:List UInt8) (j L:Nat) (h:Room C t j) (hL:L=t.length) :
  (convert 96 9 (.slice (some ⟨V.heap.size,j,none⟩) L L)).run Tryz.prog ((V.alloc (.cells C 123)).drewN n)=.ok (.string ⟨t.toArray⟩) ((V.alloc (.cells C 123)).drewN n):=by
 subst hL
 refine run_convert_bytes_back _ 96 9 5 ⟨V.heap.size,j,none⟩ t.length t Tryz.underlying96 Tryz.underlying5 Tryz.underlying9 fun i hi=>?_
 rw [Addr.add_lit]
 rw [World.cell?_drewN,World.cell?_alloc_at _ _ _ _ rfl]
 exact h.2.2.2 i hi
theorem written_ge (s f:Nat):∀ k x t,t.length≤(z1m s f k x t).length:=by
 induction f with
 | zero=>intro k x t;exact Nat.le_refl _
 | succ f ih =>
  intro k x t
  have h1:t.length≤(told s k x t).length:=by unfold told;split <;> simp <;> omega
  unfold z1m
  split
  ·exact Nat.le_trans h1 (ih _ _ _)
  ·exact h1
theorem written_told (s f k x:Nat) (t:List UInt8):(told s k x t).length≤(z1m s (f+1) k x t).length:=by
 unfold z1m
 split
 ·exact written_ge _ _ _ _ _
 ·exact Nat.le_refl _
def nextN (n:Nat) (c:UInt8):Nat:=if n*10+(c.toNat - 48)<18446744073709551616 then n*10+(c.toNat - 48) else 18446744073709551615
def z4e:List UInt8→Nat→Nat→Nat × Nat
 | [],n,i=>(n,i)
 | c::l,n,i=>if c.toNat<48∨57<c.toNat then (n,i) else z4e l (nextN n c) (i+1)
theorem tell_any (bs:List UInt8) (w:World) (hb:bs.length≤9223372036854775806) :
  Calls Tryz.prog 226 #[.string ⟨bs.toArray⟩] w fun e w'=>e=.returned (.tuple #[.int .u64 ((z4e bs 0 0).1:Int),.int .i64 ((z4e bs 0 0).2:Int)])∧w=w':=by
 obtain ⟨R,hR⟩:∃ R,R=z4e bs 0 0:=⟨_,rfl⟩
 rw [← hR]
 go_enter Tryz.func226,Tryz.ntmps226
 go_wp2
 refine z2b 0 bs.length rfl ?_
 go_wp2_with fail
 apply wp_label
 rename_i aK
 refine aK _ _ ?_
 refine z6x (fun f a W=>∃ (i n:Nat) (z4 z5 z6 z7 z8 z9 z10 z11 z12 z13 z14 z15 z16 z17 z18 z19 z20 z21 z22 z23 z24 z25 z26 z27 z28 z29 z30 z31 z32 z33 z34 z35 z36 z37 z38 z39 z40 z41 z42 z43 z44 z45 z46:Value),a={ tmps:=#[Value.string { data:=bs.toArray },undef,Value.int IntKind.u64 (n:Int),Value.int IntKind.i64 (i:Int),z4,z5,z6,z7,z8,z9,z10,z11,z12,z13,z14,z15,z16,z17,z18,z19,z20,z21,z22,z23,z24,z25,z26,z27,z28,z29,z30,z31,z32,z33,z34,z35,z36,z37,z38,z39,z40,z41,z42,z43,z44,z45,z46],defers:=[] }∧W=w∧Hid (i≤bs.length∧n<18446744073709551616∧i+f=bs.length+1∧z4e (bs.drop i) n i=R)) ?none0 ?step bs.length ?start
 case none0 =>
  rintro a W ⟨i,n,z4,z5,z6,z7,z8,z9,z10,z11,z12,z13,z14,z15,z16,z17,z18,z19,z20,z21,z22,z23,z24,z25,z26,z27,z28,z29,z30,z31,z32,z33,z34,z35,z36,z37,z38,z39,z40,z41,z42,z43,z44,z45,z46,rfl,rfl,hI⟩
  have h1:=hI.out
  omega
 case start =>
  exact ⟨0,0,_,_,_,_,_,_,_,_,_,_,_,_,_,_,_,_,_,_,_,_,_,_,_,_,_,_,_,_,_,_,_,_,_,_,_,_,_,_,_,_,_,_,_,rfl,rfl,⟨Nat.zero_le _,by decide,by omega,hR.symm⟩⟩
 case step =>
  rintro f K hK a W ⟨i,n,z4,z5,z6,z7,z8,z9,z10,z11,z12,z13,z14,z15,z16,z17,z18,z19,z20,z21,z22,z23,z24,z25,z26,z27,z28,z29,z30,z31,z32,z33,z34,z35,z36,z37,z38,z39,z40,z41,z42,z43,z44,z45,z46,rfl,rfl,hI⟩
  obtain ⟨h1,h2,h3,h4⟩:=hI.out
  have hsz:(ByteArray.mk bs.toArray).size=bs.length:=rfl
  by_cases he:i=bs.length
  ·have hei:(i:Int)=(bs.length:Int):=by omega
   have HR:Hid (R=(n,bs.length)):=by show R=_;rw [← h4,he,List.drop_length];rfl
   subst he
   clear hI h1 h2 h3 h4 hR hb hei
   go_wp2
   simp only [Exit.jump]
   refine bodyPost_ret_by (v:=.tuple #[.int .u64 (n:Int),.int .i64 (bs.length:Int)]) ?_ (by rfl) ⟨by rw [HR.out],rfl⟩
   simp [results,Tryz.results226,go_sem]
  ·have hne:¬ (i:Int)=(bs.length:Int):=by omega
   have hlt:i<bs.length:=by omega
   have i0:(0:Int)≤(i:Int):=by omega
   have i1:(i:Int)<(bs.length:Int):=by omega
   obtain ⟨c,hc0⟩:∃ c,c=bs[i]:=⟨_,rfl⟩
   have hc:∀ h,(ByteArray.mk bs.toArray)[i]'h=c:=fun h=>by rw [hc0];rfl
   have hdr:bs.drop i=c::bs.drop (i+1):=by rw [hc0];exact List.drop_eq_getElem_cons hlt
   rw [hdr] at h4
   by_cases hlo:c.toNat<48
   ·have HR:Hid (R=(n,i)):=by show R=_;rw [← h4];unfold z4e;rw [if_pos (.inl hlo)]
    have hli:(c.toNat:Int)<48:=by omega
    clear hI h1 h2 h3 h4 he hR hb hc0 hdr
    go_wp2
    simp only [Exit.jump]
    refine bodyPost_ret_by (v:=.tuple #[.int .u64 (n:Int),.int .i64 (i:Int)]) ?_ (by rfl) ⟨by rw [HR.out],rfl⟩
    simp [results,Tryz.results226,go_sem]
   ·have hli:¬ (c.toNat:Int)<48:=by omega
    by_cases hhi:57<c.toNat
    ·have HR:Hid (R=(n,i)):=by show R=_;rw [← h4];unfold z4e;rw [if_pos (.inr hhi)]
     have hhj:(57:Int)<(c.toNat:Int):=by omega
     clear hI h1 h2 h3 h4 he hR hb hc0 hdr
     go_wp2
     simp only [Exit.jump]
     refine bodyPost_ret_by (v:=.tuple #[.int .u64 (n:Int),.int .i64 (i:Int)]) ?_ (by rfl) ⟨by rw [HR.out],rfl⟩
     simp [results,Tryz.results226,go_sem]
    ·have hhj:¬ (57:Int)<(c.toNat:Int):=by omega
     obtain ⟨d,hd⟩:∃ d,d=c.toNat - 48:=⟨_,rfl⟩
     have e1:IntKind.u8.wrap ((c.toNat:Int) - 48)=(d:Int):=by rw [IntKind.wrap_u8];omega
     have e2:IntKind.u64.wrap (d:Int)=(d:Int):=by rw [IntKind.wrap_u64];omega
     have M:=fun W=>z7s n 10 h2 (by decide) W
     obtain ⟨H,hH⟩:∃ H,H=n*10 / 18446744073709551616:=⟨_,rfl⟩
     obtain ⟨Lo,hLo⟩:∃ Lo,Lo=n*10%18446744073709551616:=⟨_,rfl⟩
     rw [← hH,← hLo] at M
     have A:=fun W=>add64_0 (Lo:Int) (d:Int) (by omega) (by omega) W
     obtain ⟨S,hS⟩:∃ S:Nat,((Lo:Int)+(d:Int))%18446744073709551616=(S:Int):=⟨(Lo+d)%18446744073709551616,by omega⟩
     obtain ⟨Q,hQ⟩:∃ Q:Nat,((Lo:Int)+(d:Int)) / 18446744073709551616=(Q:Int):=⟨(Lo+d) / 18446744073709551616,by omega⟩
     rw [hS,hQ] at A
     obtain ⟨E,hE⟩:∃ E,E=H+Q:=⟨_,rfl⟩
     have eE:IntKind.u64.wrap ((H:Int)+(Q:Int))=(E:Int):=by rw [IntKind.wrap_u64];omega
     obtain ⟨k1,hk1⟩:∃ k1,k1=i+1:=⟨_,rfl⟩
     have e5:IntKind.i64.wrap ((i:Int)+1)=(k1:Int):=by rw [IntKind.wrap_i64];omega
     have hval:n*10+d=E*18446744073709551616+S:=by omega
     have hS2:S<18446744073709551616:=by omega
     have hnx:z4e (bs.drop (i+1)) (nextN n c) (i+1)=R:=by
      rw [← h4]
      show _=if _ then _ else _
      rw [if_neg (by omega)]
     by_cases hE0:E=0
     ·subst hE0
      have HN:Hid (k1≤bs.length∧S<18446744073709551616∧k1+f=bs.length+1∧z4e (bs.drop k1) S k1=R):=by
       refine ⟨by omega,hS2,by omega,?_⟩
       rw [← hnx,hk1]
       unfold nextN
       rw [← hd,if_pos (by omega),hval,Nat.zero_mul,Nat.zero_add]
      clear hI h1 h2 h3 h4 he hR hb hc0 hdr hH hLo hS hQ hE hval hd hk1 hlt hlo hhi hS2 hnx
      go_wp2_with (go_at_call 131;refine (M _).mono ?_;rintro e w' ⟨rfl,rfl⟩)
      apply wp_goto
      refine ⟨rfl,?_⟩
      exact hK _ _ ⟨k1,S,_,_,_,_,_,_,_,_,_,_,_,_,_,_,_,_,_,_,_,_,_,_,_,_,_,_,_,_,_,_,_,_,_,_,_,_,_,_,_,_,_,_,_,rfl,rfl,HN⟩
     ·have hEi:(0:Int)<(E:Int):=by omega
      have HN:Hid (k1≤bs.length∧18446744073709551615<18446744073709551616∧k1+f=bs.length+1∧z4e (bs.drop k1) 18446744073709551615 k1=R):=by
       refine ⟨by omega,by decide,by omega,?_⟩
       rw [← hnx,hk1]
       unfold nextN
       rw [← hd,if_neg (by omega)]
      clear hE0 hI h1 h2 h3 h4 he hR hb hc0 hdr hH hLo hS hQ hE hval hd hk1 hlt hlo hhi hS2 hnx
      go_wp2_with (go_at_call 131;refine (M _).mono ?_;rintro e w' ⟨rfl,rfl⟩)
      apply wp_goto
      refine ⟨rfl,?_⟩
      exact hK _ _ ⟨k1,18446744073709551615,_,_,_,_,_,_,_,_,_,_,_,_,_,_,_,_,_,_,_,_,_,_,_,_,_,_,_,_,_,_,_,_,_,_,_,_,_,_,_,_,_,_,_,rfl,rfl,HN⟩
end Go.Proofs.YtljkonkfeiojnaaGreatDoor

namespace Go.Proofs.YtljkonkfeiojnaaGreatDoor
def z8k (c:UInt8):Prop:=48≤c.toNat∧c.toNat≤57
def valF:List UInt8→Nat→Nat
 | [],n=>n
 | c::l,n=>valF l (n*10+(c.toNat - 48))
theorem valF_cons (c:UInt8) (l:List UInt8) (n:Nat):valF (c::l) n=valF l (n*10+(c.toNat - 48)):=rfl
theorem valF_app (a b:List UInt8):∀ n,valF (a++b) n=valF b (valF a n):=by
 induction a with
 | nil=>intro n;rfl
 | cons c a ih=>intro n;exact ih _
theorem sat_next (v:Nat) (c:UInt8):nextN (min v 18446744073709551615) c=min (v*10+(c.toNat - 48)) 18446744073709551615:=by
 unfold nextN
 split <;> omega
theorem tell_digits (l:List UInt8):∀ v i,(∀ c∈l,z8k c)→z4e l (min v 18446744073709551615) i=(min (valF l v) 18446744073709551615,i+l.length):=by
 induction l with
 | nil=>intro v i _;rfl
 | cons c l ih =>
  intro v i h
  have hc:=h c (by simp)
  unfold z4e
  rw [if_neg (by unfold z8k at hc;omega),sat_next,ih _ _ (fun d hd=>h d (by simp [hd]))]
  rw [valF_cons,List.length_cons,show i+1+l.length=i+(l.length+1) by omega]
theorem tell_all (l:List UInt8):∀ n i,(z4e l n i).2≤i+l.length∧((z4e l n i).2=i+l.length→∀ c∈l,z8k c):=by
 induction l with
 | nil=>intro n i;exact ⟨Nat.le_refl _,by simp⟩
 | cons c l ih =>
  intro n i
  unfold z4e
  by_cases hc:c.toNat<48∨57<c.toNat
  ·rw [if_pos hc]
   constructor
   ·show i≤_;simp
   ·intro h
    have h':i=i+(c::l).length:=h
    simp at h'
  ·rw [if_neg hc]
   obtain ⟨h1,h2⟩:=ih (nextN n c) (i+1)
   constructor
   ·simp;omega
   ·intro h d hd
    have h3:=h2 (by simp at h;omega)
    rcases List.mem_cons.1 hd with rfl|hd
    ·unfold z8k;omega
    ·exact h3 d hd
theorem digsN_val (n:Nat):∀ l:List UInt8,l.length=n→(∀ c∈l,z8k c)→z5p n (valF l 0)=l:=by
 induction n with
 | zero=>intro l h _;have:=List.eq_nil_of_length_eq_zero h;subst this;rfl
 | succ n ih =>
  intro l h hd
  have hne:l≠[]:=by rintro rfl;simp at h
  obtain ⟨a,c,rfl⟩:∃ a c,l=a++[c]:=⟨l.dropLast,l.getLast hne,(List.dropLast_concat_getLast hne).symm⟩
  have ha:a.length=n:=by simpa using h
  have hc:z8k c:=hd c (by simp)
  have hv:valF (a++[c]) 0=valF a 0*10+(c.toNat - 48):=by rw [valF_app];rfl
  unfold z8k at hc
  rw [hv]
  unfold z5p
  have e1:(valF a 0*10+(c.toNat - 48)) / 10=valF a 0:=by omega
  have e2:UInt8.ofNat (48+(valF a 0*10+(c.toNat - 48))%10)=c:=by
   have:48+(valF a 0*10+(c.toNat - 48))%10=c.toNat:=by omega
   rw [this];simp
  rw [e1,e2,ih a ha (fun d hd'=>hd d (by simp [hd']))]
theorem valF_lt (l:List UInt8):∀ n,(∀ c∈l,z8k c)→valF l n<(n+1)*10^l.length:=by
 induction l with
 | nil=>intro n _;simp [valF]
 | cons c l ih =>
  intro n h
  have hc:=h c (by simp)
  unfold z8k at hc
  have h1:=ih (n*10+(c.toNat - 48)) (fun d hd=>h d (by simp [hd]))
  unfold valF
  have h2:(n*10+(c.toNat - 48)+1)*10^l.length≤(n*10+10)*10^l.length:=Nat.mul_le_mul_right _ (by omega)
  have h3:(n+1)*10^(c::l).length=(n*10+10)*10^l.length:=by rw [List.length_cons,Nat.pow_succ];grind
  omega
theorem valF_ge (l:List UInt8):∀ n,n*10^l.length≤valF l n:=by
 induction l with
 | nil=>intro n;simp [valF]
 | cons c l ih =>
  intro n
  have h1:=ih (n*10+(c.toNat - 48))
  unfold valF
  have h2:n*10*10^l.length≤(n*10+(c.toNat - 48))*10^l.length:=Nat.mul_le_mul_right _ (by omega)
  have h3:n*10^(c::l).length=n*10*10^l.length:=by rw [List.length_cons,Nat.pow_succ];grind
  omega
theorem digs_ge (k:Nat):∀ x,10^k≤x→k+1≤(digs x).length:=by
 induction k with
 | zero=>intro x _;exact z5q x
 | succ k ih =>
  intro x h
  have hp:0<10^k:=Nat.pow_pos (by decide)
  rw [Nat.pow_succ] at h
  have hx:¬ x<10:=by omega
  rw [z3c x hx,List.length_append]
  have:=ih (x / 10) (by omega)
  simp
  omega
theorem pad_back (whole part:List UInt8) (hw:whole≠[]) (h0:whole=[48]∨whole.head?≠some 48) (hd:∀ c∈whole++part,z8k c) :
  pad part.length (digs (valF (whole++part) 0))=whole++part:=by
 rw [pad_digs]
 have hl:max (part.length+1) (digs (valF (whole++part) 0)).length=(whole++part).length:=by
  have hL:1≤whole.length:=by
   rcases Nat.eq_zero_or_pos whole.length with h|h
   ·exact absurd (List.eq_nil_of_length_eq_zero h) hw
   ·exact h
  have h1:(digs (valF (whole++part) 0)).length≤(whole++part).length:=by
   have:=valF_lt (whole++part) 0 hd
   obtain ⟨k,hk⟩:∃ k,(whole++part).length=k+1:=⟨(whole++part).length - 1,by rw [List.length_append];omega⟩
   rw [hk] at this ⊢
   exact z9r k _ (by simpa using this)
  rw [List.length_append] at h1 ⊢
  rcases h0 with h0|h0
  ·have hw1:whole.length=1:=by rw [h0];rfl
   omega
  ·have h2:(whole++part).length≤(digs (valF (whole++part) 0)).length:=by
    match whole,hw,h0,hd with
    | c::w',_,h0,hd =>
     have hc:z8k c:=hd c (by simp)
     have hne:c.toNat≠48:=by
      intro e
      apply h0
      have:c=48:=UInt8.toNat_inj.1 e
      rw [this];rfl
     unfold z8k at hc
     have h3:=valF_ge (w'++part) (0*10+(c.toNat - 48))
     have h4:10^(w'++part).length≤(0*10+(c.toNat - 48))*10^(w'++part).length:=by
      have:=Nat.mul_le_mul_right (10^(w'++part).length) (show 1≤0*10+(c.toNat - 48) by omega)
      omega
     have h5:=digs_ge (w'++part).length (valF (c::w'++part) 0) (Nat.le_trans h4 h3)
     have h6:(c::w'++part).length=(w'++part).length+1:=by simp
     rw [h6];exact h5
   rw [List.length_append] at h2
   omega
 rw [hl]
 exact digsN_val _ _ rfl hd
def PR (t:List UInt8):Option (Bool × Nat × Nat) :=
 if z7v (z1p (if t.head?=some 45 then t.drop 1 else t)).1&&(!(z1p (if t.head?=some 45 then t.drop 1 else t)).2.2 || z5c (z1p (if t.head?=some 45 then t.drop 1 else t)).2.1) then
  if (z4e ((z1p (if t.head?=some 45 then t.drop 1 else t)).1++(z1p (if t.head?=some 45 then t.drop 1 else t)).2.1) 0 0).2<((z1p (if t.head?=some 45 then t.drop 1 else t)).1++(z1p (if t.head?=some 45 then t.drop 1 else t)).2.1).length
   ∨ (t.head?=some 45∧(z4e ((z1p (if t.head?=some 45 then t.drop 1 else t)).1++(z1p (if t.head?=some 45 then t.drop 1 else t)).2.1) 0 0).1=0) then none
  else some (decide (t.head?=some 45),(z4e ((z1p (if t.head?=some 45 then t.drop 1 else t)).1++(z1p (if t.head?=some 45 then t.drop 1 else t)).2.1) 0 0).1,(z1p (if t.head?=some 45 then t.drop 1 else t)).2.1.length)
 else none
theorem dtext_cut (b:Bool) (n:Nat) (whole part:List UInt8) (hb:b=true→n≠0) (hp:pad part.length (digs n)=whole++part) :
  z2z (sval b n) part.length=(if b then [45] else [])++(whole++(if part.length=0 then [] else 46::part)):=by
 unfold z2z
 rw [z3z]
 have hs:(if sval b n<0 then [45] else [])=(if b then [45] else ([]:List UInt8)):=by
  cases b
  ·rw [if_neg (by simp [sval]),if_neg (by decide)]
  ·have:=hb rfl
   rw [if_pos (by simp [sval];omega),if_pos rfl]
 rw [hs]
 congr 1
 by_cases h0:part.length=0
 ·have hnil:=List.eq_nil_of_length_eq_zero h0
  rw [if_pos h0,if_pos h0]
  rw [h0] at hp
  rw [hp,hnil]
 ·rw [if_neg h0,if_neg h0,hp]
  have e:(whole++part).length - part.length=whole.length:=by simp
  rw [e,List.take_left,List.drop_left]
theorem PR_back (t:List UInt8) (b:Bool) (n s:Nat) (h:PR t=some (b,n,s)) (hf:fits (sval b n)=true):s≤6∧z2z (sval b n) s=t:=by
 unfold PR at h
 generalize hrest:(if t.head?=some 45 then t.drop 1 else t)=rest at h
 obtain ⟨hb1,hb2⟩:=cutPt_back rest
 generalize (z1p rest).1=whole at *
 generalize (z1p rest).2.1=part at *
 generalize (z1p rest).2.2=pointed at *
 by_cases h1:(z7v whole&&(!pointed || z5c part))=true
 ·rw [if_pos h1] at h
  by_cases h2:(z4e (whole++part) 0 0).2<(whole++part).length∨(t.head?=some 45∧(z4e (whole++part) 0 0).1=0)
  ·rw [if_pos h2] at h;exact absurd h (by simp)
  ·rw [if_neg h2] at h
   obtain ⟨e1,e2,e3⟩:decide (t.head?=some 45)=b∧(z4e (whole++part) 0 0).1=n∧part.length=s:=by simpa using h
   have hall:∀ c∈whole++part,z8k c:=by
    obtain ⟨k1,k2⟩:=tell_all (whole++part) 0 0
    exact k2 (by omega)
   have ht:=tell_digits (whole++part) 0 0 hall
   rw [show min 0 18446744073709551615=0 by decide] at ht
   have hn:n=min (valF (whole++part) 0) 18446744073709551615:=by rw [← e2,ht]
   have hfit:=(z5s _).1 hf
   have hn2:n=valF (whole++part) 0:=by
    cases b <;> simp [sval] at hfit <;> omega
   obtain ⟨hw,hpt⟩:=Bool.and_eq_true_iff.1 h1
   unfold z7v at hw
   obtain ⟨hw1,hw2⟩:=Bool.and_eq_true_iff.1 hw
   have hwn:whole≠[]:=by rintro rfl;simp at hw1
   have hw3:whole=[48]∨whole.head?≠some 48:=by
    rcases Bool.or_eq_true_iff.1 hw2 with k|k
    ·exact Or.inl (eq_of_beq k)
    ·right
     intro e
     rw [e] at k
     simp at k
   have hp:=pad_back whole part hwn hw3 hall
   rw [← hn2] at hp
   have hb:b=true→n≠0:=by
    rintro rfl h0
    exact h2 (Or.inr ⟨by simpa using e1,by rw [e2];exact h0⟩)
   have hd:=dtext_cut b n whole part hb hp
   rw [e3] at hd
   have hpl:(if s=0 then [] else 46::part)=(if pointed then 46::part else ([]:List UInt8)):=by
    cases pointed
    ·have:=hb2 rfl
     subst this
     simp at e3
     subst e3
     rfl
    ·simp at hpt
     unfold z5c at hpt
     have:part≠[]:=by rintro rfl;simp at hpt
     have:s≠0:=by
      rw [← e3]
      intro h0
      exact this (List.eq_nil_of_length_eq_zero h0)
     rw [if_neg this];rfl
   have hs6:s≤6:=by
    cases pointed
    ·have:=hb2 rfl
     subst this
     simp at e3
     omega
    ·simp at hpt
     unfold z5c at hpt
     simp at hpt
     omega
   refine ⟨hs6,?_⟩
   rw [hd,hpl,← hb1,← hrest]
   by_cases hh:t.head?=some 45
   ·have eb:b=true:=by rw [← e1];simp [hh]
    rw [eb,if_pos rfl,if_pos hh]
    match t,hh with
    | c::t',hh =>
     have:c=45:=by simpa using hh
     subst this;rfl
   ·have eb:b=false:=by rw [← e1];simp [hh]
    rw [eb,if_neg hh];rfl
 ·rw [if_neg h1] at h;exact absurd h (by simp)
end Go.Proofs.YtljkonkfeiojnaaGreatDoor

namespace Go.Proofs.YtljkonkfeiojnaaGreatDoor
open Go.RowKit
attribute [local go_sem] z0f z0b z0c z0e z0m z0k z0h z0d z0g
theorem parse_whole (S R Wh Pa:ByteArray) (b p:Bool) (w:World)
  (C1:∀ W,Calls Tryz.prog 223 #[.string S,.string ⟨#[45]⟩] W fun e w'=>e=.returned (.tuple #[.string R,.bool b])∧W=w')
  (C2:∀ W,Calls Tryz.prog 200 #[.string R,.string ⟨#[46]⟩] W fun e w'=>e=.returned (.tuple #[.string Wh,.string Pa,.bool p])∧Grew W w')
  (C3:∀ W,Calls Tryz.prog 224 #[.string Wh] W fun e w'=>e=.returned (.bool false)∧W=w') :
  Calls Tryz.prog 203 #[.string S] w fun e w'=>e=.returned (.tuple #[dv 0 0,.int .i64 21])∧Grew w w':=by
 go_enter Tryz.func203,Tryz.ntmps203
 go_wp2_with (first
  | (go_at_call 223;refine (C1 _).mono ?_;rintro e w' ⟨rfl,rfl⟩)
  | (go_at_call 200;refine (C2 _).mono ?_;rintro e w' ⟨rfl,os,n,rfl⟩)
  | (go_at_call 224;refine (C3 _).mono ?_;rintro e w' ⟨rfl,rfl⟩))
 refine bodyPost_ret_by (v:=.tuple #[dv 0 0,.int .i64 21]) ?_ rfl ⟨rfl,?_⟩
 ·simp [results,Tryz.results203,go_sem]
 ·exact gA
theorem parse_part (S R Wh Pa:ByteArray) (b p:Bool) (w:World)
  (C1:∀ W,Calls Tryz.prog 223 #[.string S,.string ⟨#[45]⟩] W fun e w'=>e=.returned (.tuple #[.string R,.bool b])∧W=w')
  (C2:∀ W,Calls Tryz.prog 200 #[.string R,.string ⟨#[46]⟩] W fun e w'=>e=.returned (.tuple #[.string Wh,.string Pa,.bool p])∧Grew W w')
  (C3:∀ W,Calls Tryz.prog 224 #[.string Wh] W fun e w'=>e=.returned (.bool true)∧W=w')
  (hp:p=true) (C4:∀ W,Calls Tryz.prog 225 #[.string Pa] W fun e w'=>e=.returned (.bool false)∧W=w') :
  Calls Tryz.prog 203 #[.string S] w fun e w'=>e=.returned (.tuple #[dv 0 0,.int .i64 21])∧Grew w w':=by
 subst hp
 go_enter Tryz.func203,Tryz.ntmps203
 go_wp2_with (first
  | (go_at_call 223;refine (C1 _).mono ?_;rintro e w' ⟨rfl,rfl⟩)
  | (go_at_call 200;refine (C2 _).mono ?_;rintro e w' ⟨rfl,os,n,rfl⟩)
  | (go_at_call 224;refine (C3 _).mono ?_;rintro e w' ⟨rfl,rfl⟩)
  | (go_at_call 225;refine (C4 _).mono ?_;rintro e w' ⟨rfl,rfl⟩))
 refine bodyPost_ret_by (v:=.tuple #[dv 0 0,.int .i64 21]) ?_ rfl ⟨rfl,?_⟩
 ·simp [results,Tryz.results203,go_sem]
 ·exact gA
theorem parse_rest (S R Wh Pa Dg:ByteArray) (b p:Bool) (n sz len:Nat) (w:World)
  (C1:∀ W,Calls Tryz.prog 223 #[.string S,.string ⟨#[45]⟩] W fun e w'=>e=.returned (.tuple #[.string R,.bool b])∧W=w')
  (C2:∀ W,Calls Tryz.prog 200 #[.string R,.string ⟨#[46]⟩] W fun e w'=>e=.returned (.tuple #[.string Wh,.string Pa,.bool p])∧Grew W w')
  (C3:∀ W,Calls Tryz.prog 224 #[.string Wh] W fun e w'=>e=.returned (.bool true)∧W=w')
  (hadd:Wh++Pa=Dg) (hsz:¬ 9223372036854775807<Wh.size+Pa.size) (hD:Dg.size=len)
  (C5:∀ W,Calls Tryz.prog 226 #[.string Dg] W fun e w'=>e=.returned (.tuple #[.int .u64 (n:Int),.int .i64 (sz:Int)])∧W=w')
  (C4:p=true→∀ W,Calls Tryz.prog 225 #[.string Pa] W fun e w'=>e=.returned (.bool true)∧W=w') (hl:(sz:Int)<(len:Int)) :
  Calls Tryz.prog 203 #[.string S] w fun e w'=>e=.returned (.tuple #[dv 0 0,.int .i64 21])∧Grew w w':=by
 cases p
 ·clear C4
  go_enter Tryz.func203,Tryz.ntmps203
  go_wp2_with (first
   | (go_at_call 223;refine (C1 _).mono ?_;rintro e w' ⟨rfl,rfl⟩)
   | (go_at_call 200;refine (C2 _).mono ?_;rintro e w' ⟨rfl,os,n,rfl⟩)
   | (go_at_call 224;refine (C3 _).mono ?_;rintro e w' ⟨rfl,rfl⟩)
   | (go_at_call 226;refine (C5 _).mono ?_;rintro e w' ⟨rfl,rfl⟩))
  refine bodyPost_ret_by (v:=.tuple #[dv 0 0,.int .i64 21]) ?_ rfl ⟨rfl,?_⟩
  ·simp [results,Tryz.results203,go_sem]
  ·exact gA
 ·replace C4:=C4 rfl
  go_enter Tryz.func203,Tryz.ntmps203
  go_wp2_with (first
   | (go_at_call 223;refine (C1 _).mono ?_;rintro e w' ⟨rfl,rfl⟩)
   | (go_at_call 200;refine (C2 _).mono ?_;rintro e w' ⟨rfl,os,n,rfl⟩)
   | (go_at_call 224;refine (C3 _).mono ?_;rintro e w' ⟨rfl,rfl⟩)
   | (go_at_call 225;refine (C4 _).mono ?_;rintro e w' ⟨rfl,rfl⟩)
   | (go_at_call 226;refine (C5 _).mono ?_;rintro e w' ⟨rfl,rfl⟩))
  refine bodyPost_ret_by (v:=.tuple #[dv 0 0,.int .i64 21]) ?_ rfl ⟨rfl,?_⟩
  ·simp [results,Tryz.results203,go_sem]
  ·exact gA
theorem parse_minus (S R Wh Pa Dg:ByteArray) (b p:Bool) (n sz len:Nat) (w:World)
  (C1:∀ W,Calls Tryz.prog 223 #[.string S,.string ⟨#[45]⟩] W fun e w'=>e=.returned (.tuple #[.string R,.bool b])∧W=w')
  (C2:∀ W,Calls Tryz.prog 200 #[.string R,.string ⟨#[46]⟩] W fun e w'=>e=.returned (.tuple #[.string Wh,.string Pa,.bool p])∧Grew W w')
  (C3:∀ W,Calls Tryz.prog 224 #[.string Wh] W fun e w'=>e=.returned (.bool true)∧W=w')
  (hadd:Wh++Pa=Dg) (hsz:¬ 9223372036854775807<Wh.size+Pa.size) (hD:Dg.size=len)
  (C5:∀ W,Calls Tryz.prog 226 #[.string Dg] W fun e w'=>e=.returned (.tuple #[.int .u64 (n:Int),.int .i64 (sz:Int)])∧W=w')
  (C4:p=true→∀ W,Calls Tryz.prog 225 #[.string Pa] W fun e w'=>e=.returned (.bool true)∧W=w') (hl:¬ (sz:Int)<(len:Int)) (hb:b=true) (hn:n=0) :
  Calls Tryz.prog 203 #[.string S] w fun e w'=>e=.returned (.tuple #[dv 0 0,.int .i64 21])∧Grew w w':=by
 subst hb
 subst hn
 cases p
 case' false=>clear C4
 case' true=>replace C4:=C4 rfl
 all_goals
  go_enter Tryz.func203,Tryz.ntmps203
  go_wp2_with (first
   | (go_at_call 223;refine (C1 _).mono ?_;rintro e w' ⟨rfl,rfl⟩)
   | (go_at_call 200;refine (C2 _).mono ?_;rintro e w' ⟨rfl,os,n,rfl⟩)
   | (go_at_call 224;refine (C3 _).mono ?_;rintro e w' ⟨rfl,rfl⟩)
   | (go_at_call 225;refine (C4 _).mono ?_;rintro e w' ⟨rfl,rfl⟩)
   | (go_at_call 226;refine (C5 _).mono ?_;rintro e w' ⟨rfl,rfl⟩))
  refine bodyPost_ret_by (v:=.tuple #[dv 0 0,.int .i64 21]) ?_ rfl ⟨rfl,?_⟩
  ·simp [results,Tryz.results203,go_sem]
  ·exact gA
theorem parse_done (S R Wh Pa Dg:ByteArray) (b p:Bool) (n sz len pl:Nat) (w:World)
  (C1:∀ W,Calls Tryz.prog 223 #[.string S,.string ⟨#[45]⟩] W fun e w'=>e=.returned (.tuple #[.string R,.bool b])∧W=w')
  (C2:∀ W,Calls Tryz.prog 200 #[.string R,.string ⟨#[46]⟩] W fun e w'=>e=.returned (.tuple #[.string Wh,.string Pa,.bool p])∧Grew W w')
  (C3:∀ W,Calls Tryz.prog 224 #[.string Wh] W fun e w'=>e=.returned (.bool true)∧W=w')
  (hadd:Wh++Pa=Dg) (hsz:¬ 9223372036854775807<Wh.size+Pa.size) (hD:Dg.size=len) (hP:Pa.size=pl)
  (C5:∀ W,Calls Tryz.prog 226 #[.string Dg] W fun e w'=>e=.returned (.tuple #[.int .u64 (n:Int),.int .i64 (sz:Int)])∧W=w')
  (U V E:Int) (C4:p=true→∀ W,Calls Tryz.prog 225 #[.string Pa] W fun e w'=>e=.returned (.bool true)∧W=w') (hl:¬ (sz:Int)<(len:Int)) (hn:b=true→¬ (n:Int)=0)
  (C6:∀ W,Calls Tryz.prog 106 #[wd b 0 n,.int .i64 (pl:Int)] W fun e w'=>e=.returned (.tuple #[dv U V,.int .i64 E])∧Grew W w') :
  Calls Tryz.prog 203 #[.string S] w fun e w'=>e=.returned (.tuple #[dv U V,.int .i64 E])∧Grew w w':=by
 cases b
 ·clear hn
  cases p
  case' false=>clear C4
  case' true=>replace C4:=C4 rfl
  all_goals
   go_enter Tryz.func203,Tryz.ntmps203
   go_wp2_with (first
   | (go_at_call 223;refine (C1 _).mono ?_;rintro e w' ⟨rfl,rfl⟩)
   | (go_at_call 200;refine (C2 _).mono ?_;rintro e w' ⟨rfl,os,n,rfl⟩)
   | (go_at_call 224;refine (C3 _).mono ?_;rintro e w' ⟨rfl,rfl⟩)
   | (go_at_call 225;refine (C4 _).mono ?_;rintro e w' ⟨rfl,rfl⟩)
   | (go_at_call 226;refine (C5 _).mono ?_;rintro e w' ⟨rfl,rfl⟩)
   | (go_at_call 106;refine (C6 _).mono ?_;rintro e w' ⟨rfl,os2,n2,rfl⟩))
   refine bodyPost_ret_by (v:=.tuple #[dv U V,.int .i64 E]) ?_ rfl ⟨rfl,?_⟩
   ·simp [results,Tryz.results203,go_sem]
   ·exact gA
 ·have hn0:((n:Int)==0)=false:=by simpa using hn rfl
  have hn1:¬ n=0:=by have:=hn rfl;omega
  clear hn
  cases p
  case' false=>clear C4
  case' true=>replace C4:=C4 rfl
  all_goals
   go_enter Tryz.func203,Tryz.ntmps203
   go_wp2_with (first
   | (go_at_call 223;refine (C1 _).mono ?_;rintro e w' ⟨rfl,rfl⟩)
   | (go_at_call 200;refine (C2 _).mono ?_;rintro e w' ⟨rfl,os,n,rfl⟩)
   | (go_at_call 224;refine (C3 _).mono ?_;rintro e w' ⟨rfl,rfl⟩)
   | (go_at_call 225;refine (C4 _).mono ?_;rintro e w' ⟨rfl,rfl⟩)
   | (go_at_call 226;refine (C5 _).mono ?_;rintro e w' ⟨rfl,rfl⟩)
   | (go_at_call 106;refine (C6 _).mono ?_;rintro e w' ⟨rfl,os2,n2,rfl⟩))
   refine bodyPost_ret_by (v:=.tuple #[dv U V,.int .i64 E]) ?_ rfl ⟨rfl,?_⟩
   ·simp [results,Tryz.results203,go_sem]
   ·exact gA
theorem cutPt_len (l:List UInt8):(z1p l).1.length+(z1p l).2.1.length≤l.length:=by
 obtain ⟨h,h2⟩:=cutPt_back l
 have:=congrArg List.length h
 rw [List.length_append] at this
 cases hb:(z1p l).2.2
 ·rw [h2 hb];simp;omega
 ·rw [hb] at this;simp at this;omega
def PV (t:List UInt8):Value :=
 match PR t with
 | none=>.tuple #[dv 0 0,.int .i64 21]
 | some (b,n,s)=>dres (sval b n) (s:Int)
theorem tell_lt (l:List UInt8):∀ n i,n<18446744073709551616→(z4e l n i).1<18446744073709551616:=by
 induction l with
 | nil=>intro n i h;exact h
 | cons c l ih =>
  intro n i h
  unfold z4e
  split
  ·exact h
  ·refine ih _ _ ?_
   unfold nextN
   split <;> omega
theorem parse_any (t:List UInt8) (w:World) (ht:t.length≤140737488351232):Calls Tryz.prog 203 #[.string ⟨t.toArray⟩] w fun e w'=>e=.returned (PV t)∧Grew w w':=by
 have C1:=fun W=>cutPrefix_any t W (by omega)
 have hrl:(if t.head?=some 45 then t.drop 1 else t).length≤t.length:=by
  split
  ·rw [List.length_drop];omega
  ·exact Nat.le_refl _
 unfold PV PR
 generalize hb:(if t.head?=some 45 then t.drop 1 else t)=rest at *
 have C2:=fun W=>cut_any rest W (by omega)
 have hcl:=cutPt_len rest
 generalize (z1p rest).1=whole at *
 generalize (z1p rest).2.1=part at *
 generalize (z1p rest).2.2=p at *
 have C3:=fun W=>rightWhole_any whole W
 have C4:=fun W=>rightPart_any part W
 have C5:=fun W=>tell_any (whole++part) W (by rw [List.length_append];omega)
 have hlt:=tell_lt (whole++part) 0 0 (by decide)
 have hadd:(ByteArray.mk whole.toArray)++(ByteArray.mk part.toArray)=⟨(whole++part).toArray⟩:=ba_app whole part
 have hsz:¬ 9223372036854775807<(ByteArray.mk whole.toArray).size+(ByteArray.mk part.toArray).size:=by
  show ¬ 9223372036854775807<whole.length+part.length
  omega
 cases hw:z7v whole
 ·rw [hw] at C3
  exact parse_whole _ _ _ _ _ _ w C1 C2 C3
 ·rw [hw] at C3
  by_cases hp:p=true∧z5c part=false
  ·rw [hp.2] at C4
   rw [hp.1,hp.2]
   exact parse_part _ _ _ _ _ _ w C1 C2 C3 hp.1 C4
  ·have hc:(true&&(!p || z5c part))=true:=by
    cases p
    ·rfl
    ·have:z5c part=true:=by
      cases hq:z5c part
      ·exact absurd ⟨rfl,hq⟩ hp
      ·rfl
     rw [this];rfl
   rw [if_pos hc]
   have C4':p=true→z5c part=true:=by
    intro h
    cases hq:z5c part
    ·exact absurd ⟨h,hq⟩ hp
    ·rfl
   have D4:∀ W,Calls Tryz.prog 225 #[.string ⟨part.toArray⟩] W fun e w'=>e=.returned (.bool (z5c part))∧W=w':=C4
   have hD:(ByteArray.mk (whole++part).toArray).size=(whole++part).length:=rfl
   have hP:(ByteArray.mk part.toArray).size=part.length:=rfl
   by_cases h2:(z4e (whole++part) 0 0).2<(whole++part).length
   ·rw [if_pos (Or.inl h2)]
    exact parse_rest _ _ _ _ _ _ p _ _ _ w C1 C2 C3 hadd hsz hD C5 (fun h W=>by have:=C4 W;rwa [C4' h] at this) (by omega)
   ·by_cases h3:t.head?=some 45∧(z4e (whole++part) 0 0).1=0
    ·rw [if_pos (Or.inr h3)]
     exact parse_minus _ _ _ _ _ _ p _ _ _ w C1 C2 C3 hadd hsz hD C5 (fun h W=>by have:=C4 W;rwa [C4' h] at this) (by omega) (by simpa using h3.1) h3.2
    ·rw [if_neg (by rintro (k|k);exact h2 k;exact h3 k)]
     have C6:=fun W=>z3w (decide (t.head?=some 45)) 0 (z4e (whole++part) 0 0).1 (part.length:Int) W hlt
     rw [Nat.zero_mul,Nat.zero_add] at C6
     exact parse_done _ _ _ _ _ _ p _ _ _ _ w C1 C2 C3 hadd hsz hD hP C5 _ _ _ (fun h W=>by have:=C4 W;rwa [C4' h] at this) (by omega) (fun h e=>h3 ⟨by simpa using h,by omega⟩) C6
end Go.Proofs.YtljkonkfeiojnaaGreatDoor
