/-
  The contract of the document's Good: whether a text is good UTF-8, as the library's ValidString tells it.
  Numbers as bytes of a key: a wide number is its two words, one behind the other; the units at the greatest scale in 128 bits.
-/
import Derived.Test.YtljkonkfeiojnaaGreatDoorProg
import Derived.WalkKit
import Derived.WalkMore
import Derived.WalkSpells
import Derived.WalkLawsBesides
import Derived.RowKit
import Derived.Below
import Derived.Laws.RangeAny
import Derived.Lib.TrimUEq
import Derived.Lib.ValidLaws
import Derived.Lib.OthersKept
import Derived.Laws.IdiomStrings
import Derived.Test.YtljkonkfeiojnaaGreatDoorVMath
set_option maxRecDepth 4000
namespace Go.Proofs.YtljkonkfeiojnaaGreatDoor
open Go.RowKit
end Go.Proofs.YtljkonkfeiojnaaGreatDoor

namespace Go.Proofs.YtljkonkfeiojnaaGreatDoor
theorem bigE_get (k n j:Nat) (h:j<k):(bigE k n)[j]'(by rw [z4u];exact h)=UInt8.ofNat (n / 256^(k - 1 - j)%256):=by
 induction k generalizing j with
 | zero=>omega
 | succ k ih =>
  cases j with
  | zero=>simp [bigE]
  | succ j =>
   simp only [bigE,List.getElem_cons_succ]
   rw [ih j (by omega),show k+1 - 1 - (j+1)=k - 1 - j by omega]
theorem bigE_succ (k n:Nat):bigE (k+1) n=UInt8.ofNat (n / 256^k%256)::bigE k n:=rfl
theorem bigE_two (H L:Nat) (hL:L<256^8):bigE 16 (H*256^8+L)=bigE 8 H++bigE 8 L:=by
 suffices K:∀ k,bigE (k+8) (H*256^8+L)=bigE k H++bigE 8 L from K 8
 intro k
 induction k with
 | zero =>
  rw [Nat.zero_add,bigE_mod 8 (H*256^8+L),Nat.add_comm (H*256^8),Nat.add_mul_mod_self_right,← bigE_mod]
  rfl
 | succ k ih =>
  rw [show k+1+8=(k+8)+1 by omega,bigE_succ (k+8),bigE_succ k,ih,List.cons_append]
  congr 3
  rw [Nat.pow_add,Nat.mul_comm (256^k),← Nat.div_div_eq_div_mul,Nat.add_comm (H*256^8),Nat.add_mul_div_right _ _ (by decide),Nat.div_eq_of_lt hL,Nat.zero_add]
theorem esc_take (l:List UInt8) (i:Nat) (h:i<l.length):esc (l.take (i+1))=esc (l.take i)++(if l[i]=0 then [0,255] else [l[i]]):=by
 induction l generalizing i with
 | nil=>simp at h
 | cons c l ih =>
  cases i with
  | zero=>by_cases hc:c=0 <;> simp [esc,hc]
  | succ i =>
   have:=ih i (by simpa using h)
   simp only [List.take_succ_cons,List.getElem_cons_succ]
   by_cases hc:c=0
   ·simp only [esc,hc,if_true,List.cons_append];rw [this]
   ·simp only [esc,hc,if_false,List.cons_append];rw [this]
theorem esc_len (l:List UInt8):(esc l).length≤2*l.length:=by
 induction l with
 | nil=>simp [esc]
 | cons c l ih=>by_cases hc:c=0 <;> simp [esc,hc] <;> omega
theorem words_pos (n p H L:Nat) (h:n*p=H*2^64+L):((n:Int)*(p:Int)+2^127).toNat=(H+2^63)*256^8+L:=by
 have e:((n:Int)*(p:Int))=((n*p:Nat):Int):=by rw [Int.natCast_mul]
 rw [e,h]
 omega
theorem words_neg (n:Int) (p U H L:Nat) (hn:n<0) (hU:(U:Int)=n+2^64) (hp1:1≤p) (hp:p≤1000000) (hn0:-2^63≤n) (h:U*p=H*2^64+L) (hL:L<2^64) :
  (n*(p:Int)+2^127).toNat=((H+2^64 - p+2^63)%2^64)*256^8+L∧H<p:=by
 have e:(n:Int)*(p:Int)=(H:Int)*2^64+(L:Int) - (p:Int)*2^64:=by
  have h1:((U*p:Nat):Int)=(H:Int)*2^64+(L:Int):=by rw [h];omega
  rw [Int.natCast_mul,hU,Int.add_mul] at h1
  omega
 have hlt:U*p≤(2^64 - 1)*p:=Nat.mul_le_mul_right p (by omega)
 have hHp:H<p:=by omega
 refine ⟨?_,hHp⟩
 rw [e,show (H+2^64 - p+2^63)%2^64=H+2^63 - p by omega]
 omega
end Go.Proofs.YtljkonkfeiojnaaGreatDoor
