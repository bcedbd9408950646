/-
  The document's Compare says what the program's does.
-/
import Derived.Test.YtibbenhplmmmiaaGreatDoorMvVOrd1
import Derived.Test.YtibbenhplmmmiaaGreatDoorDRef9
set_option maxHeartbeats 8000000
set_option maxRecDepth 20000
namespace Go.Proofs.YtibbenhplmmmiaaGreatDoor
open Go.RowKit Go.Shelf
attribute [local go_sem] z0e z0b z0c z0f z0m z0k z0h z0d z0g
theorem two_boxes' (w:World) (k n m:Int) (b:ByteArray) (k' n' m':Int) (b':ByteArray):Box ((w.alloc (.cells #[.int .i64 k,.int .i64 n,.int .i64 m,.string b] 23)).alloc (.cells #[.int .i64 k',.int .i64 n',.int .i64 m',.string b'] 23)) w.heap.size ⟨k,n,m,b.data.toList⟩∧Box ((w.alloc (.cells #[.int .i64 k,.int .i64 n,.int .i64 m,.string b] 23)).alloc (.cells #[.int .i64 k',.int .i64 n',.int .i64 m',.string b'] 23)) (w.heap.size+1) ⟨k',n',m',b'.data.toList⟩∧Below w.heap.size w ((w.alloc (.cells #[.int .i64 k,.int .i64 n,.int .i64 m,.string b] 23)).alloc (.cells #[.int .i64 k',.int .i64 n',.int .i64 m',.string b'] 23)) :=
 z7n w ⟨k,n,m,b.data.toList⟩ ⟨k',n',m',b'.data.toList⟩
theorem cls_ne {g:List UInt8→Bool} {a b:Va} (ha:vok g a) (hb:vok g b) (h:clsK a.k≠clsK b.k):¬ (isn a∧isn b)∧orL [numc a.k b.k,numc a.n b.n,numc a.m b.m,lexc a.b b.b]=numc (clsK a.k) (clsK b.k):=by
 have hk:(a.k=0∨a.k=1∨a.k=2∨a.k=3∨a.k=4∨a.k=5)∧(b.k=0∨b.k=1∨b.k=2∨b.k=3∨b.k=4∨b.k=5):=by simp only [vok] at ha hb;omega
 have hn:numc a.k b.k=numc (clsK a.k) (clsK b.k)∧numc a.k b.k≠0∧¬ (isn a∧isn b):=by
  simp only [isn]
  obtain ⟨h1,h2⟩:=hk
  rcases h1 with h1|h1|h1|h1|h1|h1 <;> rcases h2 with h2|h2|h2|h2|h2|h2 <;> rw [h1,h2] at h ⊢ <;> first|(exact absurd (by decide) h)|decide
 refine ⟨hn.2.2,?_⟩
 simp only [orL]
 rw [orr_ne hn.2.1,hn.1]
theorem cls_eq {g:List UInt8→Bool} {a b:Va} (ha:vok g a) (hb:vok g b) (h:clsK a.k=clsK b.k) (h2:clsK a.k≠2):¬ (isn a∧isn b)∧numc a.k b.k=0:=by
 have hk:(a.k=0∨a.k=1∨a.k=2∨a.k=3∨a.k=4∨a.k=5)∧(b.k=0∨b.k=1∨b.k=2∨b.k=3∨b.k=4∨b.k=5):=by simp only [vok] at ha hb;omega
 simp only [isn]
 obtain ⟨h3,h4⟩:=hk
 rcases h3 with h3|h3|h3|h3|h3|h3 <;> rcases h4 with h4|h4|h4|h4|h4|h4 <;> rw [h3] at h h2 ⊢ <;> rw [h4] at h ⊢ <;> first|(exact absurd h (by decide))|(exact absurd rfl h2)|decide
theorem cls_two {a b:Va} (h:clsK a.k=clsK b.k) (h2:clsK a.k=2):isn a∧isn b:=by
 have e:∀ x:Int,clsK x=2→x=1∨x=2:=by
  intro x hx
  unfold clsK at hx
  by_cases h0:x=1∨x=2
  ·exact h0
  ·rw [if_neg h0] at hx
   repeat' split at hx
   all_goals omega
 exact ⟨e _ h2,e _ (h▸h2)⟩
theorem rcompare_any (k n m:Int) (b:ByteArray) (k' n' m':Int) (b':ByteArray) (w:World) (va':vin ⟨k,n,m,b.data.toList⟩) (vb':vin ⟨k',n',m',b'.data.toList⟩) :
  Calls Tryz.prog 138 #[va k n m b,va k' n' m' b'] w fun e w'=>e=.returned (.int .i64 (pcmp ⟨k,n,m,b.data.toList⟩ ⟨k',n',m',b'.data.toList⟩))∧Below w.heap.size w w':=by
 obtain ⟨bxa,bxb,Bw⟩:=two_boxes' w k n m b k' n' m' b'
 have Ra:∀ W,Calls Tryz.prog 13 #[va k n m b] W fun e w'=>e=.returned (.bool (vr ⟨k,n,m,b.data.toList⟩))∧Below W.heap.size W w':=fun W=>rright_any k n m b W
 have Rb:∀ W,Calls Tryz.prog 13 #[va k' n' m' b'] W fun e w'=>e=.returned (.bool (vr ⟨k',n',m',b'.data.toList⟩))∧Below W.heap.size W w':=fun W=>rright_any k' n' m' b' W
 have l1:Op.bytesLess b.toList b'.toList=decide (lexc b.data.toList b'.data.toList<0):=by rw [Lib.toList_data,Lib.toList_data];exact lexc_less _ _
 have l2:(b.toList==b'.toList)=decide (lexc b.data.toList b'.data.toList=0):=by rw [Lib.toList_data,Lib.toList_data];exact lexc_eq _ _
 have hX:=lexc_range b.data.toList b'.data.toList
 obtain ⟨V,hV⟩:∃ V,V=pcmp ⟨k,n,m,b.data.toList⟩ ⟨k',n',m',b'.data.toList⟩:=⟨_,rfl⟩
 rw [← hV]
 by_cases ha:vr ⟨k,n,m,b.data.toList⟩=true
 ·rw [ha] at Ra
  by_cases hb:vr ⟨k',n',m',b'.data.toList⟩=true
  ·rw [hb] at Rb
   by_cases hc:clsK k=clsK k'
   ·have hc':(clsK k==clsK k')=true:=by simpa using hc
    by_cases h2:clsK k=2
    ·obtain ⟨ia,ib⟩:=cls_two (a:=⟨k,n,m,b.data.toList⟩) (b:=⟨k',n',m',b'.data.toList⟩) hc h2
     have h2':(clsK k==2)=true:=by simpa using h2
     have sa:=z4u ia ha
     have sb:=z4u ib hb
     have D:∀ W,Calls Tryz.prog 137 #[dv n m,dv n' m'] W fun e w'=>e=.returned (.int .i64 (numc (at6 ⟨k,n,m,b.data.toList⟩) (at6 ⟨k',n',m',b'.data.toList⟩)))∧Grew W w':=fun W=>by
      have:=rcmp_good n m n' m' W ((z0w m).2 sa) ((z0w m').2 sb) va'.1.1 va'.1.2 vb'.1.1 vb'.1.2
      rw [← z6y ⟨k,n,m,b.data.toList⟩,← z6y ⟨k',n',m',b'.data.toList⟩,← sgn_numc]
      exact this
     have HV:Hid (V=orL [numc (at6 ⟨k,n,m,b.data.toList⟩) (at6 ⟨k',n',m',b'.data.toList⟩),numc k k',numc m m']):=by
      show _=_
      rw [hV]
      exact if_pos ⟨ia,ib,ha,hb⟩
     generalize numc (at6 ⟨k,n,m,b.data.toList⟩) (at6 ⟨k',n',m',b'.data.toList⟩)=N6 at *
     clear hV ha hb hc h2 ia ib sa sb l1 l2 hX va' vb'
     go_enter Tryz.func138,Tryz.ntmps138
     go_upto_region 1 with fail
     generalize (w.alloc (.cells #[.int .i64 k,.int .i64 n,.int .i64 m,.string b] 23)).alloc (.cells #[.int .i64 k',.int .i64 n',.int .i64 m',.string b'] 23)=w0 at *
     have B0:Below w0.heap.size w0 w0:=Below.refl _ _
     obtain ⟨a0,a1,a2,a3⟩:=(bxa.later B0).at4
     obtain ⟨b0,b1,b2,b3⟩:=(bxb.later B0).at4
     simp only [Nat.zero_add] at a0 a1 a2 a3 b0 b1 b2 b3
     have la:=(bxa.later B0).lt
     have lb:=(bxb.later B0).lt
     go_wp2_with fail
     refine (Ra _).mono ?_
     rintro e w1 ⟨rfl,c0⟩
     have B1:=z0a B0 c0
     clear a0 a1 a2 a3 b0 b1 b2 b3 la lb c0
     obtain ⟨a0,a1,a2,a3⟩:=(bxa.later B1).at4
     obtain ⟨b0,b1,b2,b3⟩:=(bxb.later B1).at4
     simp only [Nat.zero_add] at a0 a1 a2 a3 b0 b1 b2 b3
     have la:=(bxa.later B1).lt
     have lb:=(bxb.later B1).lt
     go_wp2_with fail
     refine (Rb _).mono ?_
     rintro e w2 ⟨rfl,c1⟩
     have B2:=z0a B1 c1
     clear a0 a1 a2 a3 b0 b1 b2 b3 la lb c1
     obtain ⟨a0,a1,a2,a3⟩:=(bxa.later B2).at4
     obtain ⟨b0,b1,b2,b3⟩:=(bxb.later B2).at4
     simp only [Nat.zero_add] at a0 a1 a2 a3 b0 b1 b2 b3
     have la:=(bxa.later B2).lt
     have lb:=(bxb.later B2).lt
     go_upto_region 13 with (first|(go_at_call 198;refine (z2n _ _).mono ?_;rintro e w' ⟨rfl,rfl⟩)|(go_at_call 137;refine (D _).mono ?_;rintro e w3 ⟨rfl,os3,n3,rfl⟩))
     go_region_held2 (fun W=>W.cell? ⟨w.heap.size,0,none⟩=some (.int .i64 k)∧W.cell? ⟨w.heap.size,1,none⟩=some (.int .i64 n)∧W.cell? ⟨w.heap.size,2,none⟩=some (.int .i64 m)∧W.cell? ⟨w.heap.size,3,none⟩=some (.string b)∧W.cell? ⟨w.heap.size+1,0,none⟩=some (.int .i64 k')∧W.cell? ⟨w.heap.size+1,1,none⟩=some (.int .i64 n')∧W.cell? ⟨w.heap.size+1,2,none⟩=some (.int .i64 m')∧W.cell? ⟨w.heap.size+1,3,none⟩=some (.string b')) (first|(simp (maxDischargeDepth:=12) [go_sem,a0,a1,a2,a3,b0,b1,b2,b3,la,lb];done)|(refine ⟨?_,?_,?_,?_,?_,?_,?_,?_⟩ <;> assumption)) (first
      | (go_at_call 197;refine (z2p _ _ _).mono ?_;rintro e w' ⟨rfl,rfl⟩)
      | (go_at_call 196;refine (z3v _ 3 [N6,numc k k',numc m m'] _ rfl (by decide) (by intro i hi;match i,hi with
    | 0,_=>simp [go_sem]
    | 1,_=>simp [go_sem]
    | 2,_=>simp [go_sem])).mono ?_;rintro e w' ⟨rfl,rfl⟩))
     go_wp2
     go_ret
     exact ⟨by rw [HV.out];rfl,z0a Bw (z0a B2 (Grew.below gB))⟩
    ·have h2':(clsK k==2)=false:=by simpa using h2
     obtain ⟨nn,ek⟩:=cls_eq ((z2f ⟨k,n,m,b.data.toList⟩).1 ha) ((z2f ⟨k',n',m',b'.data.toList⟩).1 hb) hc h2
     have HV:Hid (V=orL [numc n n',numc m m',lexc b.data.toList b'.data.toList]):=by
      show _=_
      rw [hV]
      unfold pcmp
      rw [if_neg (fun h=>nn ⟨h.1,h.2.1⟩)]
      simp only [orL,ek,orr_zero]
     generalize lexc b.data.toList b'.data.toList=X at *
     clear hV ha hb hc h2 nn ek va' vb'
     rcases hX with hX|hX|hX
     ·subst hX
      have l1':Op.bytesLess b.toList b'.toList=true:=l1
      have l2':(b.toList==b'.toList)=false:=l2
      clear l1 l2
      go_enter Tryz.func138,Tryz.ntmps138
      go_upto_region 1 with fail
      generalize (w.alloc (.cells #[.int .i64 k,.int .i64 n,.int .i64 m,.string b] 23)).alloc (.cells #[.int .i64 k',.int .i64 n',.int .i64 m',.string b'] 23)=w0 at *
      have B0:Below w0.heap.size w0 w0:=Below.refl _ _
      obtain ⟨a0,a1,a2,a3⟩:=(bxa.later B0).at4
      obtain ⟨b0,b1,b2,b3⟩:=(bxb.later B0).at4
      simp only [Nat.zero_add] at a0 a1 a2 a3 b0 b1 b2 b3
      have la:=(bxa.later B0).lt
      have lb:=(bxb.later B0).lt
      go_wp2_with fail
      refine (Ra _).mono ?_
      rintro e w1 ⟨rfl,c0⟩
      have B1:=z0a B0 c0
      clear a0 a1 a2 a3 b0 b1 b2 b3 la lb c0
      obtain ⟨a0,a1,a2,a3⟩:=(bxa.later B1).at4
      obtain ⟨b0,b1,b2,b3⟩:=(bxb.later B1).at4
      simp only [Nat.zero_add] at a0 a1 a2 a3 b0 b1 b2 b3
      have la:=(bxa.later B1).lt
      have lb:=(bxb.later B1).lt
      go_wp2_with fail
      refine (Rb _).mono ?_
      rintro e w2 ⟨rfl,c1⟩
      have B2:=z0a B1 c1
      clear a0 a1 a2 a3 b0 b1 b2 b3 la lb c1
      obtain ⟨a0,a1,a2,a3⟩:=(bxa.later B2).at4
      obtain ⟨b0,b1,b2,b3⟩:=(bxb.later B2).at4
      simp only [Nat.zero_add] at a0 a1 a2 a3 b0 b1 b2 b3
      have la:=(bxa.later B2).lt
      have lb:=(bxb.later B2).lt
      go_upto_region 19 with (first|(go_at_call 198;refine (z2n _ _).mono ?_;rintro e w' ⟨rfl,rfl⟩)|fail)
      go_region_held2 (fun W=>W.cell? ⟨w.heap.size,0,none⟩=some (.int .i64 k)∧W.cell? ⟨w.heap.size,1,none⟩=some (.int .i64 n)∧W.cell? ⟨w.heap.size,2,none⟩=some (.int .i64 m)∧W.cell? ⟨w.heap.size,3,none⟩=some (.string b)∧W.cell? ⟨w.heap.size+1,0,none⟩=some (.int .i64 k')∧W.cell? ⟨w.heap.size+1,1,none⟩=some (.int .i64 n')∧W.cell? ⟨w.heap.size+1,2,none⟩=some (.int .i64 m')∧W.cell? ⟨w.heap.size+1,3,none⟩=some (.string b')) (first|(simp (maxDischargeDepth:=12) [go_sem,a0,a1,a2,a3,b0,b1,b2,b3,la,lb];done)|(refine ⟨?_,?_,?_,?_,?_,?_,?_,?_⟩ <;> assumption)) (first
       | (go_at_call 197;refine (z2p _ _ _).mono ?_;rintro e w' ⟨rfl,rfl⟩)
       | (go_at_call 196;refine (z3v _ 3 [numc n n',numc m m',(-1)] _ rfl (by decide) (by intro i hi;match i,hi with
    | 0,_=>simp [go_sem]
    | 1,_=>simp [go_sem]
    | 2,_=>simp [go_sem])).mono ?_;rintro e w' ⟨rfl,rfl⟩))
      go_wp2
      go_ret
      exact ⟨by rw [HV.out];rfl,z0a Bw (z0a B2 (Grew.below gB))⟩
     ·subst hX
      have l1':Op.bytesLess b.toList b'.toList=false:=l1
      have l2':(b.toList==b'.toList)=true:=l2
      clear l1 l2
      go_enter Tryz.func138,Tryz.ntmps138
      go_upto_region 1 with fail
      generalize (w.alloc (.cells #[.int .i64 k,.int .i64 n,.int .i64 m,.string b] 23)).alloc (.cells #[.int .i64 k',.int .i64 n',.int .i64 m',.string b'] 23)=w0 at *
      have B0:Below w0.heap.size w0 w0:=Below.refl _ _
      obtain ⟨a0,a1,a2,a3⟩:=(bxa.later B0).at4
      obtain ⟨b0,b1,b2,b3⟩:=(bxb.later B0).at4
      simp only [Nat.zero_add] at a0 a1 a2 a3 b0 b1 b2 b3
      have la:=(bxa.later B0).lt
      have lb:=(bxb.later B0).lt
      go_wp2_with fail
      refine (Ra _).mono ?_
      rintro e w1 ⟨rfl,c0⟩
      have B1:=z0a B0 c0
      clear a0 a1 a2 a3 b0 b1 b2 b3 la lb c0
      obtain ⟨a0,a1,a2,a3⟩:=(bxa.later B1).at4
      obtain ⟨b0,b1,b2,b3⟩:=(bxb.later B1).at4
      simp only [Nat.zero_add] at a0 a1 a2 a3 b0 b1 b2 b3
      have la:=(bxa.later B1).lt
      have lb:=(bxb.later B1).lt
      go_wp2_with fail
      refine (Rb _).mono ?_
      rintro e w2 ⟨rfl,c1⟩
      have B2:=z0a B1 c1
      clear a0 a1 a2 a3 b0 b1 b2 b3 la lb c1
      obtain ⟨a0,a1,a2,a3⟩:=(bxa.later B2).at4
      obtain ⟨b0,b1,b2,b3⟩:=(bxb.later B2).at4
      simp only [Nat.zero_add] at a0 a1 a2 a3 b0 b1 b2 b3
      have la:=(bxa.later B2).lt
      have lb:=(bxb.later B2).lt
      go_upto_region 19 with (first|(go_at_call 198;refine (z2n _ _).mono ?_;rintro e w' ⟨rfl,rfl⟩)|fail)
      go_region_held2 (fun W=>W.cell? ⟨w.heap.size,0,none⟩=some (.int .i64 k)∧W.cell? ⟨w.heap.size,1,none⟩=some (.int .i64 n)∧W.cell? ⟨w.heap.size,2,none⟩=some (.int .i64 m)∧W.cell? ⟨w.heap.size,3,none⟩=some (.string b)∧W.cell? ⟨w.heap.size+1,0,none⟩=some (.int .i64 k')∧W.cell? ⟨w.heap.size+1,1,none⟩=some (.int .i64 n')∧W.cell? ⟨w.heap.size+1,2,none⟩=some (.int .i64 m')∧W.cell? ⟨w.heap.size+1,3,none⟩=some (.string b')) (first|(simp (maxDischargeDepth:=12) [go_sem,a0,a1,a2,a3,b0,b1,b2,b3,la,lb];done)|(refine ⟨?_,?_,?_,?_,?_,?_,?_,?_⟩ <;> assumption)) (first
       | (go_at_call 197;refine (z2p _ _ _).mono ?_;rintro e w' ⟨rfl,rfl⟩)
       | (go_at_call 196;refine (z3v _ 3 [numc n n',numc m m',(0)] _ rfl (by decide) (by intro i hi;match i,hi with
    | 0,_=>simp [go_sem]
    | 1,_=>simp [go_sem]
    | 2,_=>simp [go_sem])).mono ?_;rintro e w' ⟨rfl,rfl⟩))
      go_wp2
      go_ret
      exact ⟨by rw [HV.out];rfl,z0a Bw (z0a B2 (Grew.below gB))⟩
     ·subst hX
      have l1':Op.bytesLess b.toList b'.toList=false:=l1
      have l2':(b.toList==b'.toList)=false:=l2
      clear l1 l2
      go_enter Tryz.func138,Tryz.ntmps138
      go_upto_region 1 with fail
      generalize (w.alloc (.cells #[.int .i64 k,.int .i64 n,.int .i64 m,.string b] 23)).alloc (.cells #[.int .i64 k',.int .i64 n',.int .i64 m',.string b'] 23)=w0 at *
      have B0:Below w0.heap.size w0 w0:=Below.refl _ _
      obtain ⟨a0,a1,a2,a3⟩:=(bxa.later B0).at4
      obtain ⟨b0,b1,b2,b3⟩:=(bxb.later B0).at4
      simp only [Nat.zero_add] at a0 a1 a2 a3 b0 b1 b2 b3
      have la:=(bxa.later B0).lt
      have lb:=(bxb.later B0).lt
      go_wp2_with fail
      refine (Ra _).mono ?_
      rintro e w1 ⟨rfl,c0⟩
      have B1:=z0a B0 c0
      clear a0 a1 a2 a3 b0 b1 b2 b3 la lb c0
      obtain ⟨a0,a1,a2,a3⟩:=(bxa.later B1).at4
      obtain ⟨b0,b1,b2,b3⟩:=(bxb.later B1).at4
      simp only [Nat.zero_add] at a0 a1 a2 a3 b0 b1 b2 b3
      have la:=(bxa.later B1).lt
      have lb:=(bxb.later B1).lt
      go_wp2_with fail
      refine (Rb _).mono ?_
      rintro e w2 ⟨rfl,c1⟩
      have B2:=z0a B1 c1
      clear a0 a1 a2 a3 b0 b1 b2 b3 la lb c1
      obtain ⟨a0,a1,a2,a3⟩:=(bxa.later B2).at4
      obtain ⟨b0,b1,b2,b3⟩:=(bxb.later B2).at4
      simp only [Nat.zero_add] at a0 a1 a2 a3 b0 b1 b2 b3
      have la:=(bxa.later B2).lt
      have lb:=(bxb.later B2).lt
      go_upto_region 19 with (first|(go_at_call 198;refine (z2n _ _).mono ?_;rintro e w' ⟨rfl,rfl⟩)|fail)
      go_region_held2 (fun W=>W.cell? ⟨w.heap.size,0,none⟩=some (.int .i64 k)∧W.cell? ⟨w.heap.size,1,none⟩=some (.int .i64 n)∧W.cell? ⟨w.heap.size,2,none⟩=some (.int .i64 m)∧W.cell? ⟨w.heap.size,3,none⟩=some (.string b)∧W.cell? ⟨w.heap.size+1,0,none⟩=some (.int .i64 k')∧W.cell? ⟨w.heap.size+1,1,none⟩=some (.int .i64 n')∧W.cell? ⟨w.heap.size+1,2,none⟩=some (.int .i64 m')∧W.cell? ⟨w.heap.size+1,3,none⟩=some (.string b')) (first|(simp (maxDischargeDepth:=12) [go_sem,a0,a1,a2,a3,b0,b1,b2,b3,la,lb];done)|(refine ⟨?_,?_,?_,?_,?_,?_,?_,?_⟩ <;> assumption)) (first
       | (go_at_call 197;refine (z2p _ _ _).mono ?_;rintro e w' ⟨rfl,rfl⟩)
       | (go_at_call 196;refine (z3v _ 3 [numc n n',numc m m',(1)] _ rfl (by decide) (by intro i hi;match i,hi with
    | 0,_=>simp [go_sem]
    | 1,_=>simp [go_sem]
    | 2,_=>simp [go_sem])).mono ?_;rintro e w' ⟨rfl,rfl⟩))
      go_wp2
      go_ret
      exact ⟨by rw [HV.out];rfl,z0a Bw (z0a B2 (Grew.below gB))⟩
   ·have hc':(clsK k==clsK k')=false:=by simpa using hc
    obtain ⟨nn,ek⟩:=cls_ne ((z2f ⟨k,n,m,b.data.toList⟩).1 ha) ((z2f ⟨k',n',m',b'.data.toList⟩).1 hb) hc
    have HV:Hid (V=numc (clsK k) (clsK k')):=by
     show _=_
     rw [hV]
     unfold pcmp
     rw [if_neg (fun h=>nn ⟨h.1,h.2.1⟩)]
     exact ek
    clear hV ha hb hc nn ek l1 l2 hX va' vb'
    go_enter Tryz.func138,Tryz.ntmps138
    go_upto_region 1 with fail
    generalize (w.alloc (.cells #[.int .i64 k,.int .i64 n,.int .i64 m,.string b] 23)).alloc (.cells #[.int .i64 k',.int .i64 n',.int .i64 m',.string b'] 23)=w0 at *
    have B0:Below w0.heap.size w0 w0:=Below.refl _ _
    obtain ⟨a0,a1,a2,a3⟩:=(bxa.later B0).at4
    obtain ⟨b0,b1,b2,b3⟩:=(bxb.later B0).at4
    simp only [Nat.zero_add] at a0 a1 a2 a3 b0 b1 b2 b3
    have la:=(bxa.later B0).lt
    have lb:=(bxb.later B0).lt
    go_wp2_with fail
    refine (Ra _).mono ?_
    rintro e w1 ⟨rfl,c0⟩
    have B1:=z0a B0 c0
    clear a0 a1 a2 a3 b0 b1 b2 b3 la lb c0
    obtain ⟨a0,a1,a2,a3⟩:=(bxa.later B1).at4
    obtain ⟨b0,b1,b2,b3⟩:=(bxb.later B1).at4
    simp only [Nat.zero_add] at a0 a1 a2 a3 b0 b1 b2 b3
    have la:=(bxa.later B1).lt
    have lb:=(bxb.later B1).lt
    go_wp2_with fail
    refine (Rb _).mono ?_
    rintro e w2 ⟨rfl,c1⟩
    have B2:=z0a B1 c1
    clear a0 a1 a2 a3 b0 b1 b2 b3 la lb c1
    obtain ⟨a0,a1,a2,a3⟩:=(bxa.later B2).at4
    obtain ⟨b0,b1,b2,b3⟩:=(bxb.later B2).at4
    simp only [Nat.zero_add] at a0 a1 a2 a3 b0 b1 b2 b3
    have la:=(bxa.later B2).lt
    have lb:=(bxb.later B2).lt
    go_wp2_with (first|(go_at_call 198;refine (z2n _ _).mono ?_;rintro e w' ⟨rfl,rfl⟩)|(go_at_call 197;refine (z2p _ _ _).mono ?_;rintro e w' ⟨rfl,rfl⟩))
    go_ret
    exact ⟨by rw [HV.out];rfl,z0a Bw B2⟩
  ·have hp:pcmp ⟨k,n,m,b.data.toList⟩ ⟨k',n',m',b'.data.toList⟩=orL [numc k k',numc n n',numc m m',lexc b.data.toList b'.data.toList]:=if_neg (fun h=>hb h.2.2.2)
   have HV:Hid (V=orL [numc k k',numc n n',numc m m',lexc b.data.toList b'.data.toList]):=hV.trans hp
   rw [Bool.not_eq_true] at hb
   rw [hb] at Rb
   generalize lexc b.data.toList b'.data.toList=X at *
   clear hV ha hb hp va' vb'
   rcases hX with hX|hX|hX
   ·subst hX
    have l1':Op.bytesLess b.toList b'.toList=true:=l1
    have l2':(b.toList==b'.toList)=false:=l2
    clear l1 l2
    go_enter Tryz.func138,Tryz.ntmps138
    go_upto_region 1 with fail
    generalize (w.alloc (.cells #[.int .i64 k,.int .i64 n,.int .i64 m,.string b] 23)).alloc (.cells #[.int .i64 k',.int .i64 n',.int .i64 m',.string b'] 23)=w0 at *
    have B0:Below w0.heap.size w0 w0:=Below.refl _ _
    obtain ⟨a0,a1,a2,a3⟩:=(bxa.later B0).at4
    obtain ⟨b0,b1,b2,b3⟩:=(bxb.later B0).at4
    simp only [Nat.zero_add] at a0 a1 a2 a3 b0 b1 b2 b3
    have la:=(bxa.later B0).lt
    have lb:=(bxb.later B0).lt
    go_wp2_with fail
    refine (Ra _).mono ?_
    rintro e w1 ⟨rfl,c0⟩
    have B1:=z0a B0 c0
    clear a0 a1 a2 a3 b0 b1 b2 b3 la lb c0
    obtain ⟨a0,a1,a2,a3⟩:=(bxa.later B1).at4
    obtain ⟨b0,b1,b2,b3⟩:=(bxb.later B1).at4
    simp only [Nat.zero_add] at a0 a1 a2 a3 b0 b1 b2 b3
    have la:=(bxa.later B1).lt
    have lb:=(bxb.later B1).lt
    go_wp2_with fail
    refine (Rb _).mono ?_
    rintro e w2 ⟨rfl,c1⟩
    have B2:=z0a B1 c1
    clear a0 a1 a2 a3 b0 b1 b2 b3 la lb c1
    obtain ⟨a0,a1,a2,a3⟩:=(bxa.later B2).at4
    obtain ⟨b0,b1,b2,b3⟩:=(bxb.later B2).at4
    simp only [Nat.zero_add] at a0 a1 a2 a3 b0 b1 b2 b3
    have la:=(bxa.later B2).lt
    have lb:=(bxb.later B2).lt
    go_upto_region 7 with (first|(go_at_call 198;refine (z2n _ _).mono ?_;rintro e w' ⟨rfl,rfl⟩)|fail)
    go_region_held2 (fun W=>W.cell? ⟨w.heap.size,0,none⟩=some (.int .i64 k)∧W.cell? ⟨w.heap.size,1,none⟩=some (.int .i64 n)∧W.cell? ⟨w.heap.size,2,none⟩=some (.int .i64 m)∧W.cell? ⟨w.heap.size,3,none⟩=some (.string b)∧W.cell? ⟨w.heap.size+1,0,none⟩=some (.int .i64 k')∧W.cell? ⟨w.heap.size+1,1,none⟩=some (.int .i64 n')∧W.cell? ⟨w.heap.size+1,2,none⟩=some (.int .i64 m')∧W.cell? ⟨w.heap.size+1,3,none⟩=some (.string b')) (first|(simp (maxDischargeDepth:=12) [go_sem,a0,a1,a2,a3,b0,b1,b2,b3,la,lb];done)|(refine ⟨?_,?_,?_,?_,?_,?_,?_,?_⟩ <;> assumption)) (first
     | (go_at_call 197;refine (z2p _ _ _).mono ?_;rintro e w' ⟨rfl,rfl⟩)
     | (go_at_call 196;refine (z3v _ 4 [numc k k',numc n n',numc m m',(-1)] _ rfl (by decide) (by intro i hi;match i,hi with
    | 0,_=>simp [go_sem]
    | 1,_=>simp [go_sem]
    | 2,_=>simp [go_sem]
    | 3,_=>simp [go_sem])).mono ?_;rintro e w' ⟨rfl,rfl⟩))
    go_wp2
    go_ret
    exact ⟨by rw [HV.out];rfl,z0a Bw (z0a B2 (Grew.below gB))⟩
   ·subst hX
    have l1':Op.bytesLess b.toList b'.toList=false:=l1
    have l2':(b.toList==b'.toList)=true:=l2
    clear l1 l2
    go_enter Tryz.func138,Tryz.ntmps138
    go_upto_region 1 with fail
    generalize (w.alloc (.cells #[.int .i64 k,.int .i64 n,.int .i64 m,.string b] 23)).alloc (.cells #[.int .i64 k',.int .i64 n',.int .i64 m',.string b'] 23)=w0 at *
    have B0:Below w0.heap.size w0 w0:=Below.refl _ _
    obtain ⟨a0,a1,a2,a3⟩:=(bxa.later B0).at4
    obtain ⟨b0,b1,b2,b3⟩:=(bxb.later B0).at4
    simp only [Nat.zero_add] at a0 a1 a2 a3 b0 b1 b2 b3
    have la:=(bxa.later B0).lt
    have lb:=(bxb.later B0).lt
    go_wp2_with fail
    refine (Ra _).mono ?_
    rintro e w1 ⟨rfl,c0⟩
    have B1:=z0a B0 c0
    clear a0 a1 a2 a3 b0 b1 b2 b3 la lb c0
    obtain ⟨a0,a1,a2,a3⟩:=(bxa.later B1).at4
    obtain ⟨b0,b1,b2,b3⟩:=(bxb.later B1).at4
    simp only [Nat.zero_add] at a0 a1 a2 a3 b0 b1 b2 b3
    have la:=(bxa.later B1).lt
    have lb:=(bxb.later B1).lt
    go_wp2_with fail
    refine (Rb _).mono ?_
    rintro e w2 ⟨rfl,c1⟩
    have B2:=z0a B1 c1
    clear a0 a1 a2 a3 b0 b1 b2 b3 la lb c1
    obtain ⟨a0,a1,a2,a3⟩:=(bxa.later B2).at4
    obtain ⟨b0,b1,b2,b3⟩:=(bxb.later B2).at4
    simp only [Nat.zero_add] at a0 a1 a2 a3 b0 b1 b2 b3
    have la:=(bxa.later B2).lt
    have lb:=(bxb.later B2).lt
    go_upto_region 7 with (first|(go_at_call 198;refine (z2n _ _).mono ?_;rintro e w' ⟨rfl,rfl⟩)|fail)
    go_region_held2 (fun W=>W.cell? ⟨w.heap.size,0,none⟩=some (.int .i64 k)∧W.cell? ⟨w.heap.size,1,none⟩=some (.int .i64 n)∧W.cell? ⟨w.heap.size,2,none⟩=some (.int .i64 m)∧W.cell? ⟨w.heap.size,3,none⟩=some (.string b)∧W.cell? ⟨w.heap.size+1,0,none⟩=some (.int .i64 k')∧W.cell? ⟨w.heap.size+1,1,none⟩=some (.int .i64 n')∧W.cell? ⟨w.heap.size+1,2,none⟩=some (.int .i64 m')∧W.cell? ⟨w.heap.size+1,3,none⟩=some (.string b')) (first|(simp (maxDischargeDepth:=12) [go_sem,a0,a1,a2,a3,b0,b1,b2,b3,la,lb];done)|(refine ⟨?_,?_,?_,?_,?_,?_,?_,?_⟩ <;> assumption)) (first
     | (go_at_call 197;refine (z2p _ _ _).mono ?_;rintro e w' ⟨rfl,rfl⟩)
     | (go_at_call 196;refine (z3v _ 4 [numc k k',numc n n',numc m m',(0)] _ rfl (by decide) (by intro i hi;match i,hi with
    | 0,_=>simp [go_sem]
    | 1,_=>simp [go_sem]
    | 2,_=>simp [go_sem]
    | 3,_=>simp [go_sem])).mono ?_;rintro e w' ⟨rfl,rfl⟩))
    go_wp2
    go_ret
    exact ⟨by rw [HV.out];rfl,z0a Bw (z0a B2 (Grew.below gB))⟩
   ·subst hX
    have l1':Op.bytesLess b.toList b'.toList=false:=l1
    have l2':(b.toList==b'.toList)=false:=l2
    clear l1 l2
    go_enter Tryz.func138,Tryz.ntmps138
    go_upto_region 1 with fail
    generalize (w.alloc (.cells #[.int .i64 k,.int .i64 n,.int .i64 m,.string b] 23)).alloc (.cells #[.int .i64 k',.int .i64 n',.int .i64 m',.string b'] 23)=w0 at *
    have B0:Below w0.heap.size w0 w0:=Below.refl _ _
    obtain ⟨a0,a1,a2,a3⟩:=(bxa.later B0).at4
    obtain ⟨b0,b1,b2,b3⟩:=(bxb.later B0).at4
    simp only [Nat.zero_add] at a0 a1 a2 a3 b0 b1 b2 b3
    have la:=(bxa.later B0).lt
    have lb:=(bxb.later B0).lt
    go_wp2_with fail
    refine (Ra _).mono ?_
    rintro e w1 ⟨rfl,c0⟩
    have B1:=z0a B0 c0
    clear a0 a1 a2 a3 b0 b1 b2 b3 la lb c0
    obtain ⟨a0,a1,a2,a3⟩:=(bxa.later B1).at4
    obtain ⟨b0,b1,b2,b3⟩:=(bxb.later B1).at4
    simp only [Nat.zero_add] at a0 a1 a2 a3 b0 b1 b2 b3
    have la:=(bxa.later B1).lt
    have lb:=(bxb.later B1).lt
    go_wp2_with fail
    refine (Rb _).mono ?_
    rintro e w2 ⟨rfl,c1⟩
    have B2:=z0a B1 c1
    clear a0 a1 a2 a3 b0 b1 b2 b3 la lb c1
    obtain ⟨a0,a1,a2,a3⟩:=(bxa.later B2).at4
    obtain ⟨b0,b1,b2,b3⟩:=(bxb.later B2).at4
    simp only [Nat.zero_add] at a0 a1 a2 a3 b0 b1 b2 b3
    have la:=(bxa.later B2).lt
    have lb:=(bxb.later B2).lt
    go_upto_region 7 with (first|(go_at_call 198;refine (z2n _ _).mono ?_;rintro e w' ⟨rfl,rfl⟩)|fail)
    go_region_held2 (fun W=>W.cell? ⟨w.heap.size,0,none⟩=some (.int .i64 k)∧W.cell? ⟨w.heap.size,1,none⟩=some (.int .i64 n)∧W.cell? ⟨w.heap.size,2,none⟩=some (.int .i64 m)∧W.cell? ⟨w.heap.size,3,none⟩=some (.string b)∧W.cell? ⟨w.heap.size+1,0,none⟩=some (.int .i64 k')∧W.cell? ⟨w.heap.size+1,1,none⟩=some (.int .i64 n')∧W.cell? ⟨w.heap.size+1,2,none⟩=some (.int .i64 m')∧W.cell? ⟨w.heap.size+1,3,none⟩=some (.string b')) (first|(simp (maxDischargeDepth:=12) [go_sem,a0,a1,a2,a3,b0,b1,b2,b3,la,lb];done)|(refine ⟨?_,?_,?_,?_,?_,?_,?_,?_⟩ <;> assumption)) (first
     | (go_at_call 197;refine (z2p _ _ _).mono ?_;rintro e w' ⟨rfl,rfl⟩)
     | (go_at_call 196;refine (z3v _ 4 [numc k k',numc n n',numc m m',(1)] _ rfl (by decide) (by intro i hi;match i,hi with
    | 0,_=>simp [go_sem]
    | 1,_=>simp [go_sem]
    | 2,_=>simp [go_sem]
    | 3,_=>simp [go_sem])).mono ?_;rintro e w' ⟨rfl,rfl⟩))
    go_wp2
    go_ret
    exact ⟨by rw [HV.out];rfl,z0a Bw (z0a B2 (Grew.below gB))⟩
 ·have hp:pcmp ⟨k,n,m,b.data.toList⟩ ⟨k',n',m',b'.data.toList⟩=orL [numc k k',numc n n',numc m m',lexc b.data.toList b'.data.toList]:=if_neg (fun h=>ha h.2.2.1)
  have HV:Hid (V=orL [numc k k',numc n n',numc m m',lexc b.data.toList b'.data.toList]):=hV.trans hp
  rw [Bool.not_eq_true] at ha
  rw [ha] at Ra
  generalize lexc b.data.toList b'.data.toList=X at *
  clear hV ha hp va' vb' Rb
  rcases hX with hX|hX|hX
  ·subst hX
   have l1':Op.bytesLess b.toList b'.toList=true:=l1
   have l2':(b.toList==b'.toList)=false:=l2
   clear l1 l2
   go_enter Tryz.func138,Tryz.ntmps138
   go_upto_region 1 with fail
   generalize (w.alloc (.cells #[.int .i64 k,.int .i64 n,.int .i64 m,.string b] 23)).alloc (.cells #[.int .i64 k',.int .i64 n',.int .i64 m',.string b'] 23)=w0 at *
   have B0:Below w0.heap.size w0 w0:=Below.refl _ _
   obtain ⟨a0,a1,a2,a3⟩:=(bxa.later B0).at4
   obtain ⟨b0,b1,b2,b3⟩:=(bxb.later B0).at4
   simp only [Nat.zero_add] at a0 a1 a2 a3 b0 b1 b2 b3
   have la:=(bxa.later B0).lt
   have lb:=(bxb.later B0).lt
   go_wp2_with fail
   refine (Ra _).mono ?_
   rintro e w1 ⟨rfl,c0⟩
   have B1:=z0a B0 c0
   clear a0 a1 a2 a3 b0 b1 b2 b3 la lb c0
   obtain ⟨a0,a1,a2,a3⟩:=(bxa.later B1).at4
   obtain ⟨b0,b1,b2,b3⟩:=(bxb.later B1).at4
   simp only [Nat.zero_add] at a0 a1 a2 a3 b0 b1 b2 b3
   have la:=(bxa.later B1).lt
   have lb:=(bxb.later B1).lt
   go_upto_region 7 with (first|(go_at_call 198;refine (z2n _ _).mono ?_;rintro e w' ⟨rfl,rfl⟩)|fail)
   go_region_held2 (fun W=>W.cell? ⟨w.heap.size,0,none⟩=some (.int .i64 k)∧W.cell? ⟨w.heap.size,1,none⟩=some (.int .i64 n)∧W.cell? ⟨w.heap.size,2,none⟩=some (.int .i64 m)∧W.cell? ⟨w.heap.size,3,none⟩=some (.string b)∧W.cell? ⟨w.heap.size+1,0,none⟩=some (.int .i64 k')∧W.cell? ⟨w.heap.size+1,1,none⟩=some (.int .i64 n')∧W.cell? ⟨w.heap.size+1,2,none⟩=some (.int .i64 m')∧W.cell? ⟨w.heap.size+1,3,none⟩=some (.string b')) (first|(simp (maxDischargeDepth:=12) [go_sem,a0,a1,a2,a3,b0,b1,b2,b3,la,lb];done)|(refine ⟨?_,?_,?_,?_,?_,?_,?_,?_⟩ <;> assumption)) (first
    | (go_at_call 197;refine (z2p _ _ _).mono ?_;rintro e w' ⟨rfl,rfl⟩)
    | (go_at_call 196;refine (z3v _ 4 [numc k k',numc n n',numc m m',(-1)] _ rfl (by decide) (by intro i hi;match i,hi with
    | 0,_=>simp [go_sem]
    | 1,_=>simp [go_sem]
    | 2,_=>simp [go_sem]
    | 3,_=>simp [go_sem])).mono ?_;rintro e w' ⟨rfl,rfl⟩))
   go_wp2
   go_ret
   exact ⟨by rw [HV.out];rfl,z0a Bw (z0a B1 (Grew.below gB))⟩
  ·subst hX
   have l1':Op.bytesLess b.toList b'.toList=false:=l1
   have l2':(b.toList==b'.toList)=true:=l2
   clear l1 l2
   go_enter Tryz.func138,Tryz.ntmps138
   go_upto_region 1 with fail
   generalize (w.alloc (.cells #[.int .i64 k,.int .i64 n,.int .i64 m,.string b] 23)).alloc (.cells #[.int .i64 k',.int .i64 n',.int .i64 m',.string b'] 23)=w0 at *
   have B0:Below w0.heap.size w0 w0:=Below.refl _ _
   obtain ⟨a0,a1,a2,a3⟩:=(bxa.later B0).at4
   obtain ⟨b0,b1,b2,b3⟩:=(bxb.later B0).at4
   simp only [Nat.zero_add] at a0 a1 a2 a3 b0 b1 b2 b3
   have la:=(bxa.later B0).lt
   have lb:=(bxb.later B0).lt
   go_wp2_with fail
   refine (Ra _).mono ?_
   rintro e w1 ⟨rfl,c0⟩
   have B1:=z0a B0 c0
   clear a0 a1 a2 a3 b0 b1 b2 b3 la lb c0
   obtain ⟨a0,a1,a2,a3⟩:=(bxa.later B1).at4
   obtain ⟨b0,b1,b2,b3⟩:=(bxb.later B1).at4
   simp only [Nat.zero_add] at a0 a1 a2 a3 b0 b1 b2 b3
   have la:=(bxa.later B1).lt
   have lb:=(bxb.later B1).lt
   go_upto_region 7 with (first|(go_at_call 198;refine (z2n _ _).mono ?_;rintro e w' ⟨rfl,rfl⟩)|fail)
   go_region_held2 (fun W=>W.cell? ⟨w.heap.size,0,none⟩=some (.int .i64 k)∧W.cell? ⟨w.heap.size,1,none⟩=some (.int .i64 n)∧W.cell? ⟨w.heap.size,2,none⟩=some (.int .i64 m)∧W.cell? ⟨w.heap.size,3,none⟩=some (.string b)∧W.cell? ⟨w.heap.size+1,0,none⟩=some (.int .i64 k')∧W.cell? ⟨w.heap.size+1,1,none⟩=some (.int .i64 n')∧W.cell? ⟨w.heap.size+1,2,none⟩=some (.int .i64 m')∧W.cell? ⟨w.heap.size+1,3,none⟩=some (.string b')) (first|(simp (maxDischargeDepth:=12) [go_sem,a0,a1,a2,a3,b0,b1,b2,b3,la,lb];done)|(refine ⟨?_,?_,?_,?_,?_,?_,?_,?_⟩ <;> assumption)) (first
    | (go_at_call 197;refine (z2p _ _ _).mono ?_;rintro e w' ⟨rfl,rfl⟩)
    | (go_at_call 196;refine (z3v _ 4 [numc k k',numc n n',numc m m',(0)] _ rfl (by decide) (by intro i hi;match i,hi with
    | 0,_=>simp [go_sem]
    | 1,_=>simp [go_sem]
    | 2,_=>simp [go_sem]
    | 3,_=>simp [go_sem])).mono ?_;rintro e w' ⟨rfl,rfl⟩))
   go_wp2
   go_ret
   exact ⟨by rw [HV.out];rfl,z0a Bw (z0a B1 (Grew.below gB))⟩
  ·subst hX
   have l1':Op.bytesLess b.toList b'.toList=false:=l1
   have l2':(b.toList==b'.toList)=false:=l2
   clear l1 l2
   go_enter Tryz.func138,Tryz.ntmps138
   go_upto_region 1 with fail
   generalize (w.alloc (.cells #[.int .i64 k,.int .i64 n,.int .i64 m,.string b] 23)).alloc (.cells #[.int .i64 k',.int .i64 n',.int .i64 m',.string b'] 23)=w0 at *
   have B0:Below w0.heap.size w0 w0:=Below.refl _ _
   obtain ⟨a0,a1,a2,a3⟩:=(bxa.later B0).at4
   obtain ⟨b0,b1,b2,b3⟩:=(bxb.later B0).at4
   simp only [Nat.zero_add] at a0 a1 a2 a3 b0 b1 b2 b3
   have la:=(bxa.later B0).lt
   have lb:=(bxb.later B0).lt
   go_wp2_with fail
   refine (Ra _).mono ?_
   rintro e w1 ⟨rfl,c0⟩
   have B1:=z0a B0 c0
   clear a0 a1 a2 a3 b0 b1 b2 b3 la lb c0
   obtain ⟨a0,a1,a2,a3⟩:=(bxa.later B1).at4
   obtain ⟨b0,b1,b2,b3⟩:=(bxb.later B1).at4
   simp only [Nat.zero_add] at a0 a1 a2 a3 b0 b1 b2 b3
   have la:=(bxa.later B1).lt
   have lb:=(bxb.later B1).lt
   go_upto_region 7 with (first|(go_at_call 198;refine (z2n _ _).mono ?_;rintro e w' ⟨rfl,rfl⟩)|fail)
   go_region_held2 (fun W=>W.cell? ⟨w.heap.size,0,none⟩=some (.int .i64 k)∧W.cell? ⟨w.heap.size,1,none⟩=some (.int .i64 n)∧W.cell? ⟨w.heap.size,2,none⟩=some (.int .i64 m)∧W.cell? ⟨w.heap.size,3,none⟩=some (.string b)∧W.cell? ⟨w.heap.size+1,0,none⟩=some (.int .i64 k')∧W.cell? ⟨w.heap.size+1,1,none⟩=some (.int .i64 n')∧W.cell? ⟨w.heap.size+1,2,none⟩=some (.int .i64 m')∧W.cell? ⟨w.heap.size+1,3,none⟩=some (.string b')) (first|(simp (maxDischargeDepth:=12) [go_sem,a0,a1,a2,a3,b0,b1,b2,b3,la,lb];done)|(refine ⟨?_,?_,?_,?_,?_,?_,?_,?_⟩ <;> assumption)) (first
    | (go_at_call 197;refine (z2p _ _ _).mono ?_;rintro e w' ⟨rfl,rfl⟩)
    | (go_at_call 196;refine (z3v _ 4 [numc k k',numc n n',numc m m',(1)] _ rfl (by decide) (by intro i hi;match i,hi with
    | 0,_=>simp [go_sem]
    | 1,_=>simp [go_sem]
    | 2,_=>simp [go_sem]
    | 3,_=>simp [go_sem])).mono ?_;rintro e w' ⟨rfl,rfl⟩))
   go_wp2
   go_ret
   exact ⟨by rw [HV.out];rfl,z0a Bw (z0a B1 (Grew.below gB))⟩
end Go.Proofs.YtibbenhplmmmiaaGreatDoor
