/-
  The contract of lexer.told: the kind and the end of the token that stands at a place of a text.
-/
import Derived.Test.YtljkonkfeiojnaaGreatDoorMCLByte
import Derived.Test.YtljkonkfeiojnaaGreatDoorMaLJumps
set_option maxHeartbeats 4000000
set_option maxRecDepth 20000
namespace Go.Proofs.YtljkonkfeiojnaaGreatDoor
open Go.RowKit
def tv (l:List UInt8) (i:Nat):Value:=.tuple #[.int .i64 ((lxt (l.drop i)).1:Int),.int .i64 ((if (lxt (l.drop i)).1=0 then 0 else i+(lxt (l.drop i)).2:Nat):Int)]
def tvT:Option Nat→Value
 | none=>.tuple #[.int .i64 0,.int .i64 0]
 | some n=>.tuple #[.int .i64 3,.int .i64 (n:Int)]
abbrev z4z (S:ByteArray) (i:Int) (c:UInt8):Prop:=∀ W,Calls Tryz.prog 86 #[.string S,.int .i64 i] W fun e w'=>e=.returned (.int .u8 (c.toNat:Int))∧W=w'
abbrev IsLet (c:UInt8) (b:Bool):Prop:=∀ W,Calls Tryz.prog 100 #[.int .u8 (c.toNat:Int)] W fun e w'=>e=.returned (.bool b)∧W=w'
abbrev IsDig (c:UInt8) (b:Bool):Prop:=∀ W,Calls Tryz.prog 101 #[.int .u8 (c.toNat:Int)] W fun e w'=>e=.returned (.bool b)∧W=w'
theorem isL_ne {c:UInt8} (h:isL c=true):c≠0:=by
 rintro rfl;cases h
theorem isD_ne {c:UInt8} (h:isD c=true):c≠0:=by
 rintro rfl;cases h
theorem bat_lt {l:List UInt8} {i:Nat} (h:bat l i≠0):i<l.length:=by
 rcases Nat.lt_or_ge i l.length with h'|h'
 ·exact h'
 ·exact absurd (z6d l i h') h
theorem wordN_bat (l:List UInt8) (i:Nat):z7k (l.drop i)=if isW (bat l i) then z7k (l.drop (i+1))+1 else 0:=by
 rcases Nat.lt_or_ge i l.length with h|h
 ·rw [z4t l i h];rfl
 ·rw [z6d l i h,List.drop_eq_nil_of_le h];rfl
theorem digN_bat (l:List UInt8) (i:Nat):digN (l.drop i)=if isD (bat l i) then digN (l.drop (i+1))+1 else 0:=by
 rcases Nat.lt_or_ge i l.length with h|h
 ·rw [z4t l i h];rfl
 ·rw [z6d l i h,List.drop_eq_nil_of_le h];rfl
theorem numN_bat (l:List UInt8) (i:Nat):numN (l.drop i)=if isD (bat l i) then numN (l.drop (i+1))+1 else if bat l i=46 then digN (l.drop (i+1))+1 else 0:=by
 rcases Nat.lt_or_ge i l.length with h|h
 ·rw [z4t l i h];rfl
 ·rw [z6d l i h,List.drop_eq_nil_of_le h];rfl
theorem z5r (c d:UInt8):((c.toNat:Int)==(d.toNat:Int))=decide (c=d):=by
 by_cases h:c=d
 ·subst h;simp
 ·rw [decide_eq_false h,beq_eq_false_iff_ne]
  intro e
  exact h (UInt8.toNat_inj.1 (by omega))
theorem z5k (n:Nat) (L:List Value) (h:L.length=n):∃ t:Nat→Value,L=(List.range n).map t:=by
 refine ⟨fun j=>L.getD j undef,?_⟩
 apply List.ext_getElem
 ·simp [h]
 ·intro i h1 h2
  simp [List.getD,h1]
theorem z7n (k:Nat):((k+1:Nat):Int)=(k:Int)+1:=by omega
theorem cast2 (k:Nat):((k+2:Nat):Int)=(k:Int)+1+1:=by omega
theorem told_word (l:List UInt8) (S:ByteArray) (i:Nat) (w:World) (hl:l.length≤140737488351232) (hi:i<l.length) (B:∀ k:Nat,z4z S (k:Int) (bat l k)) (LL:∀ c,IsLet c (isL c)) (DD:∀ c,IsDig c (isD c)) (hL:isL (bat l i)=true) (R:Nat) (hR:R=i+1+z7k (l.drop (i+1))) :
  Calls Tryz.prog 74 #[.string S,.int .i64 (i:Int)] w fun e w'=>e=.returned (.tuple #[.int .i64 1,.int .i64 (R:Int)])∧w=w':=by
 have B0:=B i
 have L0:=LL (bat l i)
 have D0:=DD (bat l i)
 rw [hL] at L0
 have HR:Hid (R=i+1+z7k (l.drop (i+1))):=hR
 clear hR D0
 go_enter Tryz.func74,Tryz.ntmps74
 go_wp2
 refine z1w (fun q a' w'=>(q=0∧∃ (k:Nat) (L:List Value),L.length=93∧a'={ tmps:=(.string S::.int .i64 ((k:Int))::L).toArray,defers:=[] }∧i≤k∧k<l.length∧w=w'∧Hid (R=k+1+z7k (l.drop (k+1))))) (fun q a' _=>l.length*2 - 2*(intOf (a'.tmps.getD 1 undef)).toNat+(if q=1 then 1 else 0)) ?_ ?_
 ·go_wp2_with (first
   | (go_at_call 86;refine (B0 _).mono ?_;rintro e w' ⟨rfl,rfl⟩)
   | (go_at_call 100;refine (L0 _).mono ?_;rintro e w' ⟨rfl,rfl⟩))
  go_step3
  exact ⟨rfl,i,[_,_,_,_,_,_,_,_,_,_,_,_,_,_,_,_,_,_,_,_,_,_,_,_,_,_,_,_,_,_,_,_,_,_,_,_,_,_,_,_,_,_,_,_,_,_,_,_,_,_,_,_,_,_,_,_,_,_,_,_,_,_,_,_,_,_,_,_,_,_,_,_,_,_,_,_,_,_,_,_,_,_,_,_,_,_,_,_,_,_,_,_,_],rfl,rfl,Nat.le_refl _,hi,rfl,HR⟩
 ·rintro q a' w' ⟨rfl,k,L,hL,rfl,h1,h2,rfl,hH⟩
  obtain ⟨t,rfl⟩:=z5k 93 L hL
  rw [show (List.range 93).map t=[t 0,t 1,t 2,t 3,t 4,t 5,t 6,t 7,t 8,t 9,t 10,t 11,t 12,t 13,t 14,t 15,t 16,t 17,t 18,t 19,t 20,t 21,t 22,t 23,t 24,t 25,t 26,t 27,t 28,t 29,t 30,t 31,t 32,t 33,t 34,t 35,t 36,t 37,t 38,t 39,t 40,t 41,t 42,t 43,t 44,t 45,t 46,t 47,t 48,t 49,t 50,t 51,t 52,t 53,t 54,t 55,t 56,t 57,t 58,t 59,t 60,t 61,t 62,t 63,t 64,t 65,t 66,t 67,t 68,t 69,t 70,t 71,t 72,t 73,t 74,t 75,t 76,t 77,t 78,t 79,t 80,t 81,t 82,t 83,t 84,t 85,t 86,t 87,t 88,t 89,t 90,t 91,t 92] from rfl]
  refine ⟨_,rfl,?_⟩
  have B1:z4z S ((k:Int)+1) (bat l (k+1)):=z7n k▸B (k+1)
  have L1:=LL (bat l (k+1))
  have D1:=DD (bat l (k+1))
  have hw:=wordN_bat l (k+1)
  obtain ⟨c,hc⟩:∃ c,c=bat l (k+1):=⟨_,rfl⟩
  have hlt:c≠0→k+1<l.length:=fun h=>bat_lt (by rw [← hc];exact h)
  rw [← hc] at B1 L1 D1 hw
  clear B LL DD B0 L0 hc HR
  cases hcl:isL c with
  | true =>
   rw [hcl] at L1
   have hlt':=hlt (isL_ne hcl)
   have hH':Hid (R=k+1+1+z7k (l.drop (k+1+1))):=by
    show R=_
    rw [hH.out,hw,if_pos (by simp [isW,hcl])]
    omega
   clear hH hw D1 hlt hcl
   go_wp2_with (first
    | (go_at_call 86;refine (B1 _).mono ?_;rintro e w' ⟨rfl,rfl⟩)
    | (go_at_call 100;refine (L1 _).mono ?_;rintro e w' ⟨rfl,rfl⟩))
   go_step3
   refine ⟨⟨rfl,k+1,[_,_,_,_,_,_,_,_,_,_,_,_,_,_,_,_,_,_,_,_,_,_,_,_,_,_,_,_,_,_,_,_,_,_,_,_,_,_,_,_,_,_,_,_,_,_,_,_,_,_,_,_,_,_,_,_,_,_,_,_,_,_,_,_,_,_,_,_,_,_,_,_,_,_,_,_,_,_,_,_,_,_,_,_,_,_,_,_,_,_,_,_,_],rfl,by rw [z7n],by omega,hlt',rfl,hH'⟩,?_⟩
   simp [intOf] <;> omega
  | false =>
   rw [hcl] at L1
   cases hcd:isD c with
   | true =>
    rw [hcd] at D1
    have hlt':=hlt (isD_ne hcd)
    have hH':Hid (R=k+1+1+z7k (l.drop (k+1+1))):=by
     show R=_
     rw [hH.out,hw,if_pos (by simp [isW,hcd])]
     omega
    clear hH hw hlt hcl hcd
    go_wp2_with (first
     | (go_at_call 86;refine (B1 _).mono ?_;rintro e w' ⟨rfl,rfl⟩)
     | (go_at_call 100;refine (L1 _).mono ?_;rintro e w' ⟨rfl,rfl⟩)
     | (go_at_call 101;refine (D1 _).mono ?_;rintro e w' ⟨rfl,rfl⟩))
    go_step3
    refine ⟨⟨rfl,k+1,[_,_,_,_,_,_,_,_,_,_,_,_,_,_,_,_,_,_,_,_,_,_,_,_,_,_,_,_,_,_,_,_,_,_,_,_,_,_,_,_,_,_,_,_,_,_,_,_,_,_,_,_,_,_,_,_,_,_,_,_,_,_,_,_,_,_,_,_,_,_,_,_,_,_,_,_,_,_,_,_,_,_,_,_,_,_,_,_,_,_,_,_,_],rfl,by rw [z7n],by omega,hlt',rfl,hH'⟩,?_⟩
    simp [intOf] <;> omega
   | false =>
    rw [hcd] at D1
    have hH':Hid (R=k+1):=by
     show R=_
     rw [hH.out,hw,if_neg (by simp [isW,hcl,hcd])]
    clear hH hw hlt hcl hcd
    go_wp2_with (first
     | (go_at_call 86;refine (B1 _).mono ?_;rintro e w' ⟨rfl,rfl⟩)
     | (go_at_call 100;refine (L1 _).mono ?_;rintro e w' ⟨rfl,rfl⟩)
     | (go_at_call 101;refine (D1 _).mono ?_;rintro e w' ⟨rfl,rfl⟩))
    try simp only [z3m]
    refine bodyPost_ret_by (v:=.tuple #[.int .i64 1,.int .i64 ((k:Int)+1)]) ?_ (by rfl) ⟨by rw [hH'.out,z7n],rfl⟩
    simp [results,Tryz.results74,go_sem]
theorem told_num (l:List UInt8) (S:ByteArray) (i:Nat) (w:World) (hl:l.length≤140737488351232) (hi:i<l.length) (B:∀ k:Nat,z4z S (k:Int) (bat l k)) (LL:∀ c,IsLet c (isL c)) (DD:∀ c,IsDig c (isD c)) (hL:isL (bat l i)=false) (hD:isD (bat l i)=true) (R:Nat) (hR:R=i+1+numN (l.drop (i+1))) :
  Calls Tryz.prog 74 #[.string S,.int .i64 (i:Int)] w fun e w'=>e=.returned (.tuple #[.int .i64 3,.int .i64 (R:Int)])∧w=w':=by
 have B0:=B i
 have L0:=LL (bat l i)
 have D0:=DD (bat l i)
 rw [hL] at L0
 rw [hD] at D0
 have HR:Hid (R=i+1+numN (l.drop (i+1))):=hR
 clear hR
 go_enter Tryz.func74,Tryz.ntmps74
 go_wp2
 refine z1w (fun q a' w'=>(q=1∧∃ (k:Nat) (L:List Value),L.length=93∧a'={ tmps:=(.string S::.int .i64 ((k:Int))::L).toArray,defers:=[] }∧i≤k∧k<l.length∧w=w'∧Hid (R=k+1+numN (l.drop (k+1))))∨(q=5∧∃ (k:Nat) (L:List Value),L.length=93∧a'={ tmps:=(.string S::.int .i64 ((k:Int))::L).toArray,defers:=[] }∧i≤k∧k<l.length∧w=w'∧Hid (R=k+1+digN (l.drop (k+1))))) (fun q a' _=>l.length*2 - 2*(intOf (a'.tmps.getD 1 undef)).toNat+(if q=1 then 1 else 0)) ?_ ?_
 ·go_wp2_with (first
    | (go_at_call 86;refine (B0 _).mono ?_;rintro e w' ⟨rfl,rfl⟩)
    | (go_at_call 100;refine (L0 _).mono ?_;rintro e w' ⟨rfl,rfl⟩)
    | (go_at_call 101;refine (D0 _).mono ?_;rintro e w' ⟨rfl,rfl⟩))
  go_step3
  exact .inl ⟨rfl,i,[_,_,_,_,_,_,_,_,_,_,_,_,_,_,_,_,_,_,_,_,_,_,_,_,_,_,_,_,_,_,_,_,_,_,_,_,_,_,_,_,_,_,_,_,_,_,_,_,_,_,_,_,_,_,_,_,_,_,_,_,_,_,_,_,_,_,_,_,_,_,_,_,_,_,_,_,_,_,_,_,_,_,_,_,_,_,_,_,_,_,_,_,_],rfl,rfl,Nat.le_refl _,hi,rfl,HR⟩
 ·rintro q a' w' (⟨rfl,k,L,hL,rfl,h1,h2,rfl,hH⟩|⟨rfl,k,L,hL,rfl,h1,h2,rfl,hH⟩)
  ·obtain ⟨t,rfl⟩:=z5k 93 L hL
   rw [show (List.range 93).map t=[t 0,t 1,t 2,t 3,t 4,t 5,t 6,t 7,t 8,t 9,t 10,t 11,t 12,t 13,t 14,t 15,t 16,t 17,t 18,t 19,t 20,t 21,t 22,t 23,t 24,t 25,t 26,t 27,t 28,t 29,t 30,t 31,t 32,t 33,t 34,t 35,t 36,t 37,t 38,t 39,t 40,t 41,t 42,t 43,t 44,t 45,t 46,t 47,t 48,t 49,t 50,t 51,t 52,t 53,t 54,t 55,t 56,t 57,t 58,t 59,t 60,t 61,t 62,t 63,t 64,t 65,t 66,t 67,t 68,t 69,t 70,t 71,t 72,t 73,t 74,t 75,t 76,t 77,t 78,t 79,t 80,t 81,t 82,t 83,t 84,t 85,t 86,t 87,t 88,t 89,t 90,t 91,t 92] from rfl]
   refine ⟨_,rfl,?_⟩
   have B1:z4z S ((k:Int)+1) (bat l (k+1)):=z7n k▸B (k+1)
   have B2:z4z S ((k:Int)+1+1) (bat l (k+2)):=cast2 k▸B (k+2)
   have D1:=DD (bat l (k+1))
   have D2:=DD (bat l (k+2))
   have hw:=numN_bat l (k+1)
   have hw2:=digN_bat l (k+2)
   have e46:=z5r (bat l (k+1)) 46
   obtain ⟨c,hc⟩:∃ c,c=bat l (k+1):=⟨_,rfl⟩
   have hlt:c≠0→k+1<l.length:=fun h=>bat_lt (by rw [← hc];exact h)
   rw [← hc] at B1 D1 hw e46
   obtain ⟨d,hd⟩:∃ d,d=bat l (k+2):=⟨_,rfl⟩
   have hlt2:d≠0→k+2<l.length:=fun h=>bat_lt (by rw [← hd];exact h)
   rw [← hd] at B2 D2 hw2
   clear B LL DD B0 L0 D0 hc hd HR
   cases hcd:isD c with
   | true =>
    rw [hcd] at D1
    have hlt':=hlt (isD_ne hcd)
    have hH':Hid (R=k+1+1+numN (l.drop (k+1+1))):=by
     show R=_
     rw [hH.out,hw,if_pos hcd]
     omega
    clear hH hw hw2 hlt hlt2 hcd B2 D2 e46
    go_wp2_with (first
      | (go_at_call 86;refine (B1 _).mono ?_;rintro e w' ⟨rfl,rfl⟩)
      | (go_at_call 101;refine (D1 _).mono ?_;rintro e w' ⟨rfl,rfl⟩))
    go_step3
    refine ⟨.inl ⟨rfl,k+1,[_,_,_,_,_,_,_,_,_,_,_,_,_,_,_,_,_,_,_,_,_,_,_,_,_,_,_,_,_,_,_,_,_,_,_,_,_,_,_,_,_,_,_,_,_,_,_,_,_,_,_,_,_,_,_,_,_,_,_,_,_,_,_,_,_,_,_,_,_,_,_,_,_,_,_,_,_,_,_,_,_,_,_,_,_,_,_,_,_,_,_,_,_],rfl,by rw [z7n],by omega,hlt',rfl,hH'⟩,?_⟩
    simp [intOf] <;> omega
   | false =>
    rw [hcd] at D1
    by_cases hp:c=46
    ·rw [decide_eq_true hp] at e46
     have e46':((c.toNat:Int)==46)=true:=e46
     cases hdd:isD d with
     | true =>
      rw [hdd] at D2
      have hlt':=hlt2 (isD_ne hdd)
      have hH':Hid (R=k+2+1+digN (l.drop (k+2+1))):=by
       show R=_
       rw [hH.out,hw,if_neg (by simp [hcd]),if_pos hp,hw2,if_pos hdd]
       omega
      clear hH hw hw2 hlt hlt2 hcd hdd hp e46
      go_wp2_with (first
        | (go_at_call 86;refine (B1 _).mono ?_;rintro e w' ⟨rfl,rfl⟩)
        | (go_at_call 101;refine (D1 _).mono ?_;rintro e w' ⟨rfl,rfl⟩))
      apply wp_label
      go_wp2_with (first
        | (go_at_call 86;refine (B2 _).mono ?_;rintro e w' ⟨rfl,rfl⟩)
        | (go_at_call 101;refine (D2 _).mono ?_;rintro e w' ⟨rfl,rfl⟩))
      go_step3
      refine ⟨.inr ⟨rfl,k+2,[_,_,_,_,_,_,_,_,_,_,_,_,_,_,_,_,_,_,_,_,_,_,_,_,_,_,_,_,_,_,_,_,_,_,_,_,_,_,_,_,_,_,_,_,_,_,_,_,_,_,_,_,_,_,_,_,_,_,_,_,_,_,_,_,_,_,_,_,_,_,_,_,_,_,_,_,_,_,_,_,_,_,_,_,_,_,_,_,_,_,_,_,_],rfl,by rw [cast2],by omega,hlt',rfl,hH'⟩,?_⟩
      simp [intOf] <;> omega
     | false =>
      rw [hdd] at D2
      have hH':Hid (R=k+2):=by
       show R=_
       rw [hH.out,hw,if_neg (by simp [hcd]),if_pos hp,hw2,if_neg (by simp [hdd])]
      clear hH hw hw2 hlt hlt2 hcd hdd hp e46
      go_wp2_with (first
        | (go_at_call 86;refine (B1 _).mono ?_;rintro e w' ⟨rfl,rfl⟩)
        | (go_at_call 101;refine (D1 _).mono ?_;rintro e w' ⟨rfl,rfl⟩))
      apply wp_label
      go_wp2_with (first
        | (go_at_call 86;refine (B2 _).mono ?_;rintro e w' ⟨rfl,rfl⟩)
        | (go_at_call 101;refine (D2 _).mono ?_;rintro e w' ⟨rfl,rfl⟩))
      try simp only [z3m]
      refine bodyPost_ret_by (v:=.tuple #[.int .i64 3,.int .i64 ((k:Int)+1+1)]) ?_ (by rfl) ⟨by rw [hH'.out,cast2],rfl⟩
      simp [results,Tryz.results74,go_sem]
    ·rw [decide_eq_false hp] at e46
     have e46':((c.toNat:Int)==46)=false:=e46
     have hH':Hid (R=k+1):=by
      show R=_
      rw [hH.out,hw,if_neg (by simp [hcd]),if_neg hp]
     clear hH hw hw2 hlt hlt2 hcd hp e46 B2 D2
     go_wp2_with (first
       | (go_at_call 86;refine (B1 _).mono ?_;rintro e w' ⟨rfl,rfl⟩)
       | (go_at_call 101;refine (D1 _).mono ?_;rintro e w' ⟨rfl,rfl⟩))
     try simp only [z3m]
     refine bodyPost_ret_by (v:=.tuple #[.int .i64 3,.int .i64 ((k:Int)+1)]) ?_ (by rfl) ⟨by rw [hH'.out,z7n],rfl⟩
     simp [results,Tryz.results74,go_sem]
  ·obtain ⟨t,rfl⟩:=z5k 93 L hL
   rw [show (List.range 93).map t=[t 0,t 1,t 2,t 3,t 4,t 5,t 6,t 7,t 8,t 9,t 10,t 11,t 12,t 13,t 14,t 15,t 16,t 17,t 18,t 19,t 20,t 21,t 22,t 23,t 24,t 25,t 26,t 27,t 28,t 29,t 30,t 31,t 32,t 33,t 34,t 35,t 36,t 37,t 38,t 39,t 40,t 41,t 42,t 43,t 44,t 45,t 46,t 47,t 48,t 49,t 50,t 51,t 52,t 53,t 54,t 55,t 56,t 57,t 58,t 59,t 60,t 61,t 62,t 63,t 64,t 65,t 66,t 67,t 68,t 69,t 70,t 71,t 72,t 73,t 74,t 75,t 76,t 77,t 78,t 79,t 80,t 81,t 82,t 83,t 84,t 85,t 86,t 87,t 88,t 89,t 90,t 91,t 92] from rfl]
   refine ⟨_,rfl,?_⟩
   have B1:z4z S ((k:Int)+1) (bat l (k+1)):=z7n k▸B (k+1)
   have D1:=DD (bat l (k+1))
   have hw:=digN_bat l (k+1)
   obtain ⟨c,hc⟩:∃ c,c=bat l (k+1):=⟨_,rfl⟩
   have hlt:c≠0→k+1<l.length:=fun h=>bat_lt (by rw [← hc];exact h)
   rw [← hc] at B1 D1 hw
   clear B LL DD B0 L0 D0 hc HR
   cases hcd:isD c with
   | true =>
    rw [hcd] at D1
    have hlt':=hlt (isD_ne hcd)
    have hH':Hid (R=k+1+1+digN (l.drop (k+1+1))):=by
     show R=_
     rw [hH.out,hw,if_pos hcd]
     omega
    clear hH hw hlt hcd
    go_wp2_with (first
      | (go_at_call 86;refine (B1 _).mono ?_;rintro e w' ⟨rfl,rfl⟩)
      | (go_at_call 101;refine (D1 _).mono ?_;rintro e w' ⟨rfl,rfl⟩))
    go_step3
    refine ⟨.inr ⟨rfl,k+1,[_,_,_,_,_,_,_,_,_,_,_,_,_,_,_,_,_,_,_,_,_,_,_,_,_,_,_,_,_,_,_,_,_,_,_,_,_,_,_,_,_,_,_,_,_,_,_,_,_,_,_,_,_,_,_,_,_,_,_,_,_,_,_,_,_,_,_,_,_,_,_,_,_,_,_,_,_,_,_,_,_,_,_,_,_,_,_,_,_,_,_,_,_],rfl,by rw [z7n],by omega,hlt',rfl,hH'⟩,?_⟩
    simp [intOf] <;> omega
   | false =>
    rw [hcd] at D1
    have hH':Hid (R=k+1):=by
     show R=_
     rw [hH.out,hw,if_neg (by simp [hcd])]
    clear hH hw hlt hcd
    go_wp2_with (first
      | (go_at_call 86;refine (B1 _).mono ?_;rintro e w' ⟨rfl,rfl⟩)
      | (go_at_call 101;refine (D1 _).mono ?_;rintro e w' ⟨rfl,rfl⟩))
    try simp only [z3m]
    refine bodyPost_ret_by (v:=.tuple #[.int .i64 3,.int .i64 ((k:Int)+1)]) ?_ (by rfl) ⟨by rw [hH'.out,z7n],rfl⟩
    simp [results,Tryz.results74,go_sem]
theorem told_text (l:List UInt8) (S:ByteArray) (i:Nat) (w:World) (hl:l.length≤140737488351232) (hi:i<l.length) (B:∀ k:Nat,z4z S (k:Int) (bat l k)) (LL:∀ c,IsLet c (isL c)) (DD:∀ c,IsDig c (isD c)) (hS:S.size=l.length) (hG:∀ (k:Nat) h,S[k]'h=bat l k) (hc:bat l i=39) (T:Option Nat) (hT:T=(z4f (l.drop (i+1))).map (·+(i+1))) (R:Value) (hR:R=tvT T) :
  Calls Tryz.prog 74 #[.string S,.int .i64 (i:Int)] w fun e w'=>e=.returned (R)∧w=w':=by
 have B0:=B i
 have L0:=LL (bat l i)
 have D0:=DD (bat l i)
 have hL:isL (bat l i)=false:=by rw [hc];rfl
 have hD:isD (bat l i)=false:=by rw [hc];rfl
 rw [hL] at L0
 rw [hD] at D0
 have e39:(((bat l i).toNat:Int)==39)=true:=by have:=z5r (bat l i) 39;rwa [decide_eq_true hc] at this
 have HT:Hid (T=(z4f (l.drop (i+1))).map (·+(i+1))):=hT
 have HR:Hid (R=tvT T):=hR
 clear hT hR
 go_enter Tryz.func74,Tryz.ntmps74
 go_wp2
 refine z1w (fun q a' w'=>(q=2∧∃ (k:Nat) (L:List Value),L.length=93∧a'={ tmps:=(.string S::.int .i64 ((k:Int))::L).toArray,defers:=[] }∧i≤k∧k<l.length∧w=w'∧Hid (T=(z4f (l.drop (k+1))).map (·+(k+1))))) (fun q a' _=>l.length*2 - 2*(intOf (a'.tmps.getD 1 undef)).toNat+(if q=1 then 1 else 0)) ?_ ?_
 ·clear hL hD hc hG
  go_wp2_with (first
    | (go_at_call 86;refine (B0 _).mono ?_;rintro e w' ⟨rfl,rfl⟩)
    | (go_at_call 100;refine (L0 _).mono ?_;rintro e w' ⟨rfl,rfl⟩)
    | (go_at_call 101;refine (D0 _).mono ?_;rintro e w' ⟨rfl,rfl⟩))
  go_step3
  exact ⟨rfl,i,[_,_,_,_,_,_,_,_,_,_,_,_,_,_,_,_,_,_,_,_,_,_,_,_,_,_,_,_,_,_,_,_,_,_,_,_,_,_,_,_,_,_,_,_,_,_,_,_,_,_,_,_,_,_,_,_,_,_,_,_,_,_,_,_,_,_,_,_,_,_,_,_,_,_,_,_,_,_,_,_,_,_,_,_,_,_,_,_,_,_,_,_,_],rfl,rfl,Nat.le_refl _,hi,rfl,HT⟩
 ·rintro q a' w' ⟨rfl,k,L,hL,rfl,h1,h2,rfl,hH⟩
  obtain ⟨t,rfl⟩:=z5k 93 L hL
  rw [show (List.range 93).map t=[t 0,t 1,t 2,t 3,t 4,t 5,t 6,t 7,t 8,t 9,t 10,t 11,t 12,t 13,t 14,t 15,t 16,t 17,t 18,t 19,t 20,t 21,t 22,t 23,t 24,t 25,t 26,t 27,t 28,t 29,t 30,t 31,t 32,t 33,t 34,t 35,t 36,t 37,t 38,t 39,t 40,t 41,t 42,t 43,t 44,t 45,t 46,t 47,t 48,t 49,t 50,t 51,t 52,t 53,t 54,t 55,t 56,t 57,t 58,t 59,t 60,t 61,t 62,t 63,t 64,t 65,t 66,t 67,t 68,t 69,t 70,t 71,t 72,t 73,t 74,t 75,t 76,t 77,t 78,t 79,t 80,t 81,t 82,t 83,t 84,t 85,t 86,t 87,t 88,t 89,t 90,t 91,t 92] from rfl]
  refine ⟨_,rfl,?_⟩
  clear B0 L0 D0 hL hD hc HT e39
  by_cases hend:k+1=l.length
  ·have hend':((k:Int)+1==(l.length:Int))=true:=by simp;omega
   have hH':Hid (R=Value.tuple #[.int .i64 0,.int .i64 0]):=by
    show R=_
    rw [HR.out,hH.out,List.drop_eq_nil_of_le (by omega)]
    rfl
   clear hH HR hend B LL DD hG
   go_wp2
   try simp only [z3m]
   refine bodyPost_ret_by (v:=.tuple #[.int .i64 0,.int .i64 (0)]) ?_ (by rfl) ⟨by rw [hH'.out],rfl⟩
   simp [results,Tryz.results74,go_sem]
  ·have hend':((k:Int)+1==(l.length:Int))=false:=by simp;omega
   have hlt1:k+1<l.length:=by omega
   have j0:(0:Int)≤(k:Int)+1:=by omega
   have j1:(k:Int)+1<(l.length:Int):=by omega
   have hg1:=hG (k+1)
   have hdr:=z4t l (k+1) hlt1
   have eq1:=z5r (bat l (k+1)) 39
   obtain ⟨c,hc⟩:∃ c,c=bat l (k+1):=⟨_,rfl⟩
   rw [← hc] at hg1 hdr eq1
   by_cases hq:c=39
   ·rw [decide_eq_true hq] at eq1
    have eq1':((c.toNat:Int)==39)=true:=eq1
    have B2:z4z S ((k:Int)+1+1) (bat l (k+2)):=cast2 k▸B (k+2)
    have eq2:=z5r (bat l (k+2)) 39
    have hdr2:=z4t l (k+2)
    have hout:=z6d l (k+2)
    obtain ⟨d,hd⟩:∃ d,d=bat l (k+2):=⟨_,rfl⟩
    have hlt2:d≠0→k+2<l.length:=fun h=>bat_lt (by rw [← hd];exact h)
    rw [← hd] at B2 eq2 hdr2 hout
    by_cases hq2:d=39
    ·rw [decide_eq_true hq2] at eq2
     have eq2':((d.toNat:Int)==39)=true:=eq2
     have hlt':=hlt2 (by rw [hq2];decide)
     have hH':Hid (T=(z4f (l.drop (k+2+1))).map (·+(k+2+1))):=by
      show T=_
      rw [hH.out,hdr,hdr2 hlt',hq,hq2,textN_two]
      cases z4f (l.drop (k+2+1)) <;> simp
      omega
     clear hH hdr hdr2 hout hlt2 hq hq2 eq1 eq2 hc hd B LL DD hG hend
     go_wp2_with (first
       | (go_at_call 86;refine (B2 _).mono ?_;rintro e w' ⟨rfl,rfl⟩))
     go_step3
     refine ⟨⟨rfl,k+2,[_,_,_,_,_,_,_,_,_,_,_,_,_,_,_,_,_,_,_,_,_,_,_,_,_,_,_,_,_,_,_,_,_,_,_,_,_,_,_,_,_,_,_,_,_,_,_,_,_,_,_,_,_,_,_,_,_,_,_,_,_,_,_,_,_,_,_,_,_,_,_,_,_,_,_,_,_,_,_,_,_,_,_,_,_,_,_,_,_,_,_,_,_],rfl,by rw [cast2],by omega,hlt',rfl,hH'⟩,?_⟩
     simp [intOf] <;> omega
    ·rw [decide_eq_false hq2] at eq2
     have eq2':((d.toNat:Int)==39)=false:=eq2
     have hH':Hid (R=Value.tuple #[.int .i64 3,.int .i64 ((k:Int)+1+1)]):=by
      show R=_
      rw [HR.out,hH.out,hdr,hq]
      rcases Nat.lt_or_ge (k+2) l.length with h|h
      ·rw [hdr2 h,textN_end _ _ hq2]
       show Value.tuple #[.int .i64 3,.int .i64 ((1+(k+1):Nat):Int)]=_
       rw [show ((1+(k+1):Nat):Int)=(k:Int)+1+1 by omega]
      ·rw [List.drop_eq_nil_of_le h,textN_last]
       show Value.tuple #[.int .i64 3,.int .i64 ((1+(k+1):Nat):Int)]=_
       rw [show ((1+(k+1):Nat):Int)=(k:Int)+1+1 by omega]
     clear hH hdr hdr2 hout hlt2 hq hq2 eq1 eq2 hc hd B LL DD hG hend HR
     go_wp2_with (first
       | (go_at_call 86;refine (B2 _).mono ?_;rintro e w' ⟨rfl,rfl⟩))
     try simp only [z3m]
     refine bodyPost_ret_by (v:=.tuple #[.int .i64 3,.int .i64 ((k:Int)+1+1)]) ?_ (by rfl) ⟨by rw [hH'.out],rfl⟩
     simp [results,Tryz.results74,go_sem]
   ·rw [decide_eq_false hq] at eq1
    have eq1':((c.toNat:Int)==39)=false:=eq1
    have hlt':=hlt1
    have hH':Hid (T=(z4f (l.drop (k+1+1))).map (·+(k+1+1))):=by
     show T=_
     rw [hH.out,hdr,textN_cons _ _ hq]
     cases z4f (l.drop (k+1+1)) <;> simp
     omega
    clear hH hdr hq eq1 hc B LL DD hG hend
    go_wp2
    go_step3
    refine ⟨⟨rfl,k+1,[_,_,_,_,_,_,_,_,_,_,_,_,_,_,_,_,_,_,_,_,_,_,_,_,_,_,_,_,_,_,_,_,_,_,_,_,_,_,_,_,_,_,_,_,_,_,_,_,_,_,_,_,_,_,_,_,_,_,_,_,_,_,_,_,_,_,_,_,_,_,_,_,_,_,_,_,_,_,_,_,_,_,_,_,_,_,_,_,_,_,_,_,_],rfl,by rw [z7n],by omega,hlt',rfl,hH'⟩,?_⟩
    simp [intOf] <;> omega
theorem told_less (l:List UInt8) (S:ByteArray) (i:Nat) (w:World) (hl:l.length≤140737488351232) (hi:i<l.length) (B:∀ k:Nat,z4z S (k:Int) (bat l k)) (LL:∀ c,IsLet c (isL c)) (DD:∀ c,IsDig c (isD c)) (hc:bat l i=60) (R:Nat) (hR:R=if bat l (i+1)=62∨bat l (i+1)=61 then i+2 else i+1) :
  Calls Tryz.prog 74 #[.string S,.int .i64 (i:Int)] w fun e w'=>e=.returned (.tuple #[.int .i64 2,.int .i64 (R:Int)])∧w=w':=by
 have B0:=B i
 have L0:=LL (bat l i)
 have D0:=DD (bat l i)
 have hL:isL (bat l i)=false:=by rw [hc];rfl
 have hD:isD (bat l i)=false:=by rw [hc];rfl
 rw [hL] at L0
 rw [hD] at D0
 have e39:(((bat l i).toNat:Int)==39)=false:=by have:=z5r (bat l i) 39;rwa [decide_eq_false (by rw [hc];decide)] at this
 have e60:(((bat l i).toNat:Int)==60)=true:=by have:=z5r (bat l i) 60;rwa [decide_eq_true hc] at this
 go_enter Tryz.func74,Tryz.ntmps74
 go_wp2
 refine z1w (fun q a' w'=>(q=3∧∃ (k:Nat) (L:List Value),L.length=93∧a'={ tmps:=(.string S::.int .i64 ((k:Int))::L).toArray,defers:=[] }∧i≤k∧k<l.length∧w=w'∧Hid (k=i))) (fun q a' _=>l.length*2 - 2*(intOf (a'.tmps.getD 1 undef)).toNat+(if q=1 then 1 else 0)) ?_ ?_
 ·clear hL hD hc
  go_wp2_with (first
    | (go_at_call 86;refine (B0 _).mono ?_;rintro e w' ⟨rfl,rfl⟩)
    | (go_at_call 100;refine (L0 _).mono ?_;rintro e w' ⟨rfl,rfl⟩)
    | (go_at_call 101;refine (D0 _).mono ?_;rintro e w' ⟨rfl,rfl⟩))
  go_step3
  exact ⟨rfl,i,[_,_,_,_,_,_,_,_,_,_,_,_,_,_,_,_,_,_,_,_,_,_,_,_,_,_,_,_,_,_,_,_,_,_,_,_,_,_,_,_,_,_,_,_,_,_,_,_,_,_,_,_,_,_,_,_,_,_,_,_,_,_,_,_,_,_,_,_,_,_,_,_,_,_,_,_,_,_,_,_,_,_,_,_,_,_,_,_,_,_,_,_,_],rfl,rfl,Nat.le_refl _,hi,rfl,Eq.refl i⟩
 ·rintro q a' w' ⟨rfl,k,L,hL,rfl,h1,h2,rfl,hH⟩
  obtain ⟨t,rfl⟩:=z5k 93 L hL
  rw [show (List.range 93).map t=[t 0,t 1,t 2,t 3,t 4,t 5,t 6,t 7,t 8,t 9,t 10,t 11,t 12,t 13,t 14,t 15,t 16,t 17,t 18,t 19,t 20,t 21,t 22,t 23,t 24,t 25,t 26,t 27,t 28,t 29,t 30,t 31,t 32,t 33,t 34,t 35,t 36,t 37,t 38,t 39,t 40,t 41,t 42,t 43,t 44,t 45,t 46,t 47,t 48,t 49,t 50,t 51,t 52,t 53,t 54,t 55,t 56,t 57,t 58,t 59,t 60,t 61,t 62,t 63,t 64,t 65,t 66,t 67,t 68,t 69,t 70,t 71,t 72,t 73,t 74,t 75,t 76,t 77,t 78,t 79,t 80,t 81,t 82,t 83,t 84,t 85,t 86,t 87,t 88,t 89,t 90,t 91,t 92] from rfl]
  refine ⟨_,rfl,?_⟩
  have B1:z4z S ((k:Int)+1) (bat l (k+1)):=z7n k▸B (k+1)
  obtain rfl:=hH.out
  have x62:=z5r (bat l (k+1)) 62
  have x61:=z5r (bat l (k+1)) 61
  clear B0 L0 D0 B LL DD hL hD hc hH e39 e60
  by_cases hx:bat l (k+1)=62
  ·have y62:(((bat l (k+1)).toNat:Int)==62)=true:=by rw [decide_eq_true hx] at x62;exact x62
   rw [if_pos (.inl hx)] at hR
   have HR:Hid (R=k+2):=hR
   clear hR hx x62 x61
   go_wp2_with (first
     | (go_at_call 86;refine (B1 _).mono ?_;rintro e w' ⟨rfl,rfl⟩))
   try simp only [z3m]
   refine bodyPost_ret_by (v:=.tuple #[.int .i64 2,.int .i64 ((k:Int)+2)]) ?_ (by rfl) ⟨by rw [HR.out];rfl,rfl⟩
   simp [results,Tryz.results74,go_sem]
  ·have y62:(((bat l (k+1)).toNat:Int)==62)=false:=by rw [decide_eq_false hx] at x62;exact x62
   by_cases hy:bat l (k+1)=61
   ·have y61:(((bat l (k+1)).toNat:Int)==61)=true:=by rw [decide_eq_true hy] at x61;exact x61
    rw [if_pos (.inr hy)] at hR
    have HR:Hid (R=k+2):=hR
    clear hR hx hy x62 x61
    go_wp2_with (first
      | (go_at_call 86;refine (B1 _).mono ?_;rintro e w' ⟨rfl,rfl⟩))
    apply wp_label
    go_wp2_with (first
      | (go_at_call 86;refine (B1 _).mono ?_;rintro e w' ⟨rfl,rfl⟩))
    try simp only [z3m]
    refine bodyPost_ret_by (v:=.tuple #[.int .i64 2,.int .i64 ((k:Int)+2)]) ?_ (by rfl) ⟨by rw [HR.out];rfl,rfl⟩
    simp [results,Tryz.results74,go_sem]
   ·have y61:(((bat l (k+1)).toNat:Int)==61)=false:=by rw [decide_eq_false hy] at x61;exact x61
    rw [if_neg (by rintro (h|h);exact hx h;exact hy h)] at hR
    have HR:Hid (R=k+1):=hR
    clear hR hx hy x62 x61
    go_wp2_with (first
      | (go_at_call 86;refine (B1 _).mono ?_;rintro e w' ⟨rfl,rfl⟩))
    apply wp_label
    go_wp2_with (first
      | (go_at_call 86;refine (B1 _).mono ?_;rintro e w' ⟨rfl,rfl⟩))
    try simp only [z3m]
    refine bodyPost_ret_by (v:=.tuple #[.int .i64 2,.int .i64 ((k:Int)+1)]) ?_ (by rfl) ⟨by rw [HR.out];rfl,rfl⟩
    simp [results,Tryz.results74,go_sem]
theorem told_greater (l:List UInt8) (S:ByteArray) (i:Nat) (w:World) (hl:l.length≤140737488351232) (hi:i<l.length) (B:∀ k:Nat,z4z S (k:Int) (bat l k)) (LL:∀ c,IsLet c (isL c)) (DD:∀ c,IsDig c (isD c)) (hc:bat l i=62) (R:Nat) (hR:R=if bat l (i+1)=61 then i+2 else i+1) :
  Calls Tryz.prog 74 #[.string S,.int .i64 (i:Int)] w fun e w'=>e=.returned (.tuple #[.int .i64 2,.int .i64 (R:Int)])∧w=w':=by
 have B0:=B i
 have L0:=LL (bat l i)
 have D0:=DD (bat l i)
 have hL:isL (bat l i)=false:=by rw [hc];rfl
 have hD:isD (bat l i)=false:=by rw [hc];rfl
 rw [hL] at L0
 rw [hD] at D0
 have e39:(((bat l i).toNat:Int)==39)=false:=by have:=z5r (bat l i) 39;rwa [decide_eq_false (by rw [hc];decide)] at this
 have e60:(((bat l i).toNat:Int)==60)=false:=by have:=z5r (bat l i) 60;rwa [decide_eq_false (by rw [hc];decide)] at this
 have e62:(((bat l i).toNat:Int)==62)=true:=by have:=z5r (bat l i) 62;rwa [decide_eq_true hc] at this
 go_enter Tryz.func74,Tryz.ntmps74
 go_wp2
 refine z1w (fun q a' w'=>(q=4∧∃ (k:Nat) (L:List Value),L.length=93∧a'={ tmps:=(.string S::.int .i64 ((k:Int))::L).toArray,defers:=[] }∧i≤k∧k<l.length∧w=w'∧Hid (k=i))) (fun q a' _=>l.length*2 - 2*(intOf (a'.tmps.getD 1 undef)).toNat+(if q=1 then 1 else 0)) ?_ ?_
 ·clear hL hD hc
  go_wp2_with (first
    | (go_at_call 86;refine (B0 _).mono ?_;rintro e w' ⟨rfl,rfl⟩)
    | (go_at_call 100;refine (L0 _).mono ?_;rintro e w' ⟨rfl,rfl⟩)
    | (go_at_call 101;refine (D0 _).mono ?_;rintro e w' ⟨rfl,rfl⟩))
  go_step3
  exact ⟨rfl,i,[_,_,_,_,_,_,_,_,_,_,_,_,_,_,_,_,_,_,_,_,_,_,_,_,_,_,_,_,_,_,_,_,_,_,_,_,_,_,_,_,_,_,_,_,_,_,_,_,_,_,_,_,_,_,_,_,_,_,_,_,_,_,_,_,_,_,_,_,_,_,_,_,_,_,_,_,_,_,_,_,_,_,_,_,_,_,_,_,_,_,_,_,_],rfl,rfl,Nat.le_refl _,hi,rfl,Eq.refl i⟩
 ·rintro q a' w' ⟨rfl,k,L,hL,rfl,h1,h2,rfl,hH⟩
  obtain ⟨t,rfl⟩:=z5k 93 L hL
  rw [show (List.range 93).map t=[t 0,t 1,t 2,t 3,t 4,t 5,t 6,t 7,t 8,t 9,t 10,t 11,t 12,t 13,t 14,t 15,t 16,t 17,t 18,t 19,t 20,t 21,t 22,t 23,t 24,t 25,t 26,t 27,t 28,t 29,t 30,t 31,t 32,t 33,t 34,t 35,t 36,t 37,t 38,t 39,t 40,t 41,t 42,t 43,t 44,t 45,t 46,t 47,t 48,t 49,t 50,t 51,t 52,t 53,t 54,t 55,t 56,t 57,t 58,t 59,t 60,t 61,t 62,t 63,t 64,t 65,t 66,t 67,t 68,t 69,t 70,t 71,t 72,t 73,t 74,t 75,t 76,t 77,t 78,t 79,t 80,t 81,t 82,t 83,t 84,t 85,t 86,t 87,t 88,t 89,t 90,t 91,t 92] from rfl]
  refine ⟨_,rfl,?_⟩
  have B1:z4z S ((k:Int)+1) (bat l (k+1)):=z7n k▸B (k+1)
  obtain rfl:=hH.out
  have x62:=z5r (bat l (k+1)) 62
  have x61:=z5r (bat l (k+1)) 61
  clear B0 L0 D0 B LL DD hL hD hc hH e39 e60 e62
  clear x62
  by_cases hy:bat l (k+1)=61
  ·have y61:(((bat l (k+1)).toNat:Int)==61)=true:=by rw [decide_eq_true hy] at x61;exact x61
   rw [if_pos hy] at hR
   have HR:Hid (R=k+2):=hR
   clear hR hy x61
   go_wp2_with (first
     | (go_at_call 86;refine (B1 _).mono ?_;rintro e w' ⟨rfl,rfl⟩))
   try simp only [z3m]
   refine bodyPost_ret_by (v:=.tuple #[.int .i64 2,.int .i64 ((k:Int)+2)]) ?_ (by rfl) ⟨by rw [HR.out];rfl,rfl⟩
   simp [results,Tryz.results74,go_sem]
  ·have y61:(((bat l (k+1)).toNat:Int)==61)=false:=by rw [decide_eq_false hy] at x61;exact x61
   rw [if_neg hy] at hR
   have HR:Hid (R=k+1):=hR
   clear hR hy x61
   go_wp2_with (first
     | (go_at_call 86;refine (B1 _).mono ?_;rintro e w' ⟨rfl,rfl⟩))
   try simp only [z3m]
   refine bodyPost_ret_by (v:=.tuple #[.int .i64 2,.int .i64 ((k:Int)+1)]) ?_ (by rfl) ⟨by rw [HR.out];rfl,rfl⟩
   simp [results,Tryz.results74,go_sem]
theorem told_sign (l:List UInt8) (S:ByteArray) (i:Nat) (w:World) (hl:l.length≤140737488351232) (hi:i<l.length) (B:∀ k:Nat,z4z S (k:Int) (bat l k)) (LL:∀ c,IsLet c (isL c)) (DD:∀ c,IsDig c (isD c)) (hL:isL (bat l i)=false) (hD:isD (bat l i)=false) (h39:bat l i≠39) (h60:bat l i≠60) (h62:bat l i≠62) (hs:isS (bat l i)=true) :
  Calls Tryz.prog 74 #[.string S,.int .i64 (i:Int)] w fun e w'=>e=.returned (.tuple #[.int .i64 2,.int .i64 ((i:Int)+1)])∧w=w':=by
 have B0:=B i
 have L0:=LL (bat l i)
 have D0:=DD (bat l i)
 rw [hL] at L0
 rw [hD] at D0
 have e39:(((bat l i).toNat:Int)==39)=false:=by have:=z5r (bat l i) 39;rwa [decide_eq_false h39] at this
 have e60:(((bat l i).toNat:Int)==60)=false:=by have:=z5r (bat l i) 60;rwa [decide_eq_false h60] at this
 have e62:(((bat l i).toNat:Int)==62)=false:=by have:=z5r (bat l i) 62;rwa [decide_eq_false h62] at this
 have X0:=fun W=>z5t (ByteArray.mk #[40,41,44,46,59,42,43,45,47,37,61]) (bat l i) W
 have hx:=signs_idx (bat l i)
 rw [hs] at hx
 have hx':=of_decide_eq_true hx
 generalize firstIdx (ByteArray.mk #[40,41,44,46,59,42,43,45,47,37,61]) (bat l i)=q at *
 clear hL hD h39 h60 h62 hs hx B LL DD
 go_enter Tryz.func74,Tryz.ntmps74
 go_wp2
 refine z1w (fun _ _ _=>False) (fun _ _ _=>0) ?_ (fun _ _ _ h=>h.elim)
 go_wp2_with (first
   | (go_at_call 86;refine (B0 _).mono ?_;rintro e w' ⟨rfl,rfl⟩)
   | (go_at_call 100;refine (L0 _).mono ?_;rintro e w' ⟨rfl,rfl⟩)
   | (go_at_call 101;refine (D0 _).mono ?_;rintro e w' ⟨rfl,rfl⟩)
   | (go_at_call 85;refine (X0 _).mono ?_;rintro e w' ⟨rfl,rfl⟩))
 try simp only [z3m]
 refine bodyPost_ret_by (v:=.tuple #[.int .i64 2,.int .i64 ((i:Int)+1)]) ?_ (by rfl) ⟨rfl,rfl⟩
 simp [results,Tryz.results74,go_sem]
theorem told_none (l:List UInt8) (S:ByteArray) (i:Nat) (w:World) (_hl:l.length≤140737488351232) (B:∀ k:Nat,z4z S (k:Int) (bat l k)) (LL:∀ c,IsLet c (isL c)) (DD:∀ c,IsDig c (isD c)) (hL:isL (bat l i)=false) (hD:isD (bat l i)=false) (h39:bat l i≠39) (h60:bat l i≠60) (h62:bat l i≠62) (hs:isS (bat l i)=false) :
  Calls Tryz.prog 74 #[.string S,.int .i64 (i:Int)] w fun e w'=>e=.returned (.tuple #[.int .i64 0,.int .i64 0])∧w=w':=by
 have B0:=B i
 have L0:=LL (bat l i)
 have D0:=DD (bat l i)
 rw [hL] at L0
 rw [hD] at D0
 have e39:(((bat l i).toNat:Int)==39)=false:=by have:=z5r (bat l i) 39;rwa [decide_eq_false h39] at this
 have e60:(((bat l i).toNat:Int)==60)=false:=by have:=z5r (bat l i) 60;rwa [decide_eq_false h60] at this
 have e62:(((bat l i).toNat:Int)==62)=false:=by have:=z5r (bat l i) 62;rwa [decide_eq_false h62] at this
 have X0:=fun W=>z5t (ByteArray.mk #[40,41,44,46,59,42,43,45,47,37,61]) (bat l i) W
 have hx:=signs_idx (bat l i)
 rw [hs] at hx
 have hx':=of_decide_eq_false hx
 generalize firstIdx (ByteArray.mk #[40,41,44,46,59,42,43,45,47,37,61]) (bat l i)=q at *
 clear hL hD h39 h60 h62 hs hx B LL DD
 go_enter Tryz.func74,Tryz.ntmps74
 go_wp2
 refine z1w (fun _ _ _=>False) (fun _ _ _=>0) ?_ (fun _ _ _ h=>h.elim)
 go_wp2_with (first
   | (go_at_call 86;refine (B0 _).mono ?_;rintro e w' ⟨rfl,rfl⟩)
   | (go_at_call 100;refine (L0 _).mono ?_;rintro e w' ⟨rfl,rfl⟩)
   | (go_at_call 101;refine (D0 _).mono ?_;rintro e w' ⟨rfl,rfl⟩)
   | (go_at_call 85;refine (X0 _).mono ?_;rintro e w' ⟨rfl,rfl⟩))
 try simp only [z3m]
 refine bodyPost_ret_by (v:=.tuple #[.int .i64 0,.int .i64 (0)]) ?_ (by rfl) ⟨rfl,rfl⟩
 simp [results,Tryz.results74,go_sem]
theorem head_bat (l:List UInt8) (i:Nat) (k:UInt8) (hk:k≠0):((l.drop i).head?=some k)↔bat l i=k:=by
 rcases Nat.lt_or_ge i l.length with h|h
 ·rw [z4t l i h];simp
 ·rw [z6d l i h,List.drop_eq_nil_of_le h]
  simp
  exact fun e=>hk e.symm
theorem z7b (l:List UInt8) (i:Nat) (w:World) (hl:l.length≤140737488351232):Calls Tryz.prog 74 #[.string ⟨l.toArray⟩,.int .i64 (i:Int)] w fun e w'=>e=.returned (tv l i)∧w=w':=by
 have B:∀ k:Nat,z4z ⟨l.toArray⟩ (k:Int) (bat l k):=fun k W=>byteAt_any l k W
 have LL:∀ c,IsLet c (isL c):=fun c W=>isLetter_any c W
 have DD:∀ c,IsDig c (isD c):=fun c W=>isDigit_any c W
 rcases Nat.lt_or_ge i l.length with hi|hi
 ·unfold tv
  have hd:=z4t l i hi
  have h61:=head_bat l (i+1) 61 (by decide)
  have h62:=head_bat l (i+1) 62 (by decide)
  rw [hd,z7r]
  by_cases hL:isL (bat l i)=true
  ·simp only [if_pos hL]
   refine (told_word l _ i w hl hi B LL DD hL _ rfl).mono ?_
   rintro e w' ⟨rfl,rfl⟩
   refine ⟨?_,rfl⟩
   rw [if_neg (by decide),show i+1+z7k (l.drop (i+1))=i+(z7k (l.drop (i+1))+1) by omega]
   rfl
  have hL':isL (bat l i)=false:=by simpa using hL
  by_cases hD:isD (bat l i)=true
  ·simp only [if_neg hL,if_pos hD]
   refine (told_num l _ i w hl hi B LL DD hL' hD _ rfl).mono ?_
   rintro e w' ⟨rfl,rfl⟩
   refine ⟨?_,rfl⟩
   rw [if_neg (by decide),show i+1+numN (l.drop (i+1))=i+(numN (l.drop (i+1))+1) by omega]
   rfl
  have hD':isD (bat l i)=false:=by simpa using hD
  by_cases hq:bat l i=39
  ·simp only [if_neg hL,if_neg hD,if_pos hq]
   refine (told_text l _ i w hl hi B LL DD rfl (fun k h=>by have h':k<l.length:=h;show l[k]=_;unfold bat;simp [List.getD,h']) hq _ rfl _ rfl).mono ?_
   rintro e w' ⟨rfl,rfl⟩
   refine ⟨?_,rfl⟩
   cases z4f (l.drop (i+1)) with
   | none=>rfl
   | some n =>
    simp only [Option.map_some]
    rw [if_neg (by decide),show n+(i+1)=i+(n+1) by omega]
    rfl
  by_cases h0:bat l i=60
  ·simp only [if_neg hL,if_neg hD,if_neg hq,if_pos h0]
   refine (told_less l _ i w hl hi B LL DD h0 _ rfl).mono ?_
   rintro e w' ⟨rfl,rfl⟩
   refine ⟨?_,rfl⟩
   simp only [h61,h62]
   by_cases hx:bat l (i+1)=62∨bat l (i+1)=61
   ·rw [if_pos hx,if_pos hx];rfl
   ·rw [if_neg hx,if_neg hx];rfl
  by_cases h2:bat l i=62
  ·simp only [if_neg hL,if_neg hD,if_neg hq,if_neg h0,if_pos h2]
   refine (told_greater l _ i w hl hi B LL DD h2 _ rfl).mono ?_
   rintro e w' ⟨rfl,rfl⟩
   refine ⟨?_,rfl⟩
   simp only [h61]
   by_cases hx:bat l (i+1)=61
   ·rw [if_pos hx,if_pos hx];rfl
   ·rw [if_neg hx,if_neg hx];rfl
  by_cases hs:isS (bat l i)=true
  ·simp only [if_neg hL,if_neg hD,if_neg hq,if_neg h0,if_neg h2,if_pos hs]
   exact told_sign l _ i w hl hi B LL DD hL' hD' hq h0 h2 hs
  ·simp only [if_neg hL,if_neg hD,if_neg hq,if_neg h0,if_neg h2,if_neg hs]
   exact told_none l _ i w hl B LL DD hL' hD' hq h0 h2 (by simpa using hs)
 ·have hb:=z6d l i hi
  unfold tv
  rw [List.drop_eq_nil_of_le hi]
  exact told_none l _ i w hl B LL DD (by rw [hb];rfl) (by rw [hb];rfl) (by rw [hb];decide) (by rw [hb];decide) (by rw [hb];decide) (by rw [hb];rfl)
end Go.Proofs.YtljkonkfeiojnaaGreatDoor
