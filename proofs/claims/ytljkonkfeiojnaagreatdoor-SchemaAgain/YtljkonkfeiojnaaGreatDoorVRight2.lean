/-
  The contract of datum.Right.
-/
import Derived.Test.YtljkonkfeiojnaaGreatDoorVRight
set_option maxHeartbeats 4000000
namespace Go.Proofs.YtljkonkfeiojnaaGreatDoor
open Go.RowKit Go.Shelf
attribute [local go_sem] z0f z0b z0c z0e z0m z0k z0h z0d z0g
attribute [local go_sem high] eqVa
theorem z7a {b:ByteArray}:(b.toList==(ByteArray.mk #[]).toList)=(b.data.toList==[]):=by
 rw [Lib.toList_data,Lib.toList_data]
def vrt (k n m:Int) (b:ByteArray):Bool :=
 (if k=1∨k=4 then (m==0&&b.data.toList==[]) else if k=2∨k=5 then b.data.toList==[] else if k=3 then n==0&&m==0 else n==0&&(m==0&&b.data.toList==[]))&&vft k n m b
theorem vrt_iff (k n m:Int) (b:ByteArray):vrt k n m b=true↔vok Lib.validD ⟨k,n,m,b.data.toList⟩:=by
 have hsz:b.data.toList.length=b.size:=rfl
 unfold vrt vft vok
 simp only [ok1,z0u,hsz]
 by_cases h0:k=0
 ·subst h0;simp
 by_cases h1:k=1
 ·subst h1;simp
 by_cases h2:k=2
 ·subst h2;simp;constructor <;> (rintro ⟨h,g⟩;simp_all)
 by_cases h3:k=3
 ·subst h3;simp [and_assoc]
 by_cases h4:k=4
 ·subst h4;simp;constructor <;> (intro h;simp_all)
 by_cases h5:k=5
 ·subst h5;simp [and_assoc];constructor <;> (intro h;simp_all)
 simp [h0,h1,h2,h3,h4,h5]
theorem z2u (k n m:Int) (b:ByteArray) (w:World) (hT:Tabs w):Calls Tryz.prog 22 #[va k n m b] w fun e w'=>e=.returned (.bool (vrt k n m b))∧Below w.heap.size w w':=by
 obtain ⟨k',n',m',b',hnm,hE⟩:∃ k' n' m' b',vnm k n m b=va k' n' m' b'∧(k==k'&&(n==n'&&(m==m'&&b.toList==b'.toList)))=(if k=1∨k=4 then (m==0&&b.data.toList==[]) else if k=2∨k=5 then b.data.toList==[] else if k=3 then n==0&&m==0 else n==0&&(m==0&&b.data.toList==[])):=by
  unfold vnm
  split
  ·exact ⟨_,_,_,_,rfl,by simp only [z7a,beq_self_eq_true,Bool.true_and]⟩
  split
  ·exact ⟨_,_,_,_,rfl,by simp only [z7a,beq_self_eq_true,Bool.true_and]⟩
  split
  ·exact ⟨_,_,_,_,rfl,by simp⟩
  ·exact ⟨_,_,_,_,rfl,by simp only [z7a,beq_self_eq_true,Bool.true_and]⟩
 unfold vrt
 rw [← hE]
 clear hE
 have N:∀ W,Calls Tryz.prog 43 #[va k n m b] W fun e w'=>e=.returned (va k' n' m' b')∧Grew W w':=fun W=>by have:=named_any k n m b W;rwa [hnm] at this
 have F:∀ W,Grew w W→Calls Tryz.prog 44 #[va k n m b] W fun e w'=>e=.returned (.bool (vft k n m b))∧Below W.heap.size W w':=fun W h=>vfits_any k n m b W (hT.later h.below)
 clear hT hnm
 generalize vft k n m b=f at *
 cases hb:(k==k'&&(n==n'&&(m==m'&&b.toList==b'.toList)))
 ·go_enter Tryz.func22,Tryz.ntmps22
  go_upto_region 1 with fail
  go_region_with (first
   | (go_at_call 43;refine (N _).mono ?_;rintro e w1 ⟨rfl,os1,n1,rfl⟩)
   | (go_at_call 44;refine (F _ gB).mono ?_;rintro e w2 ⟨rfl,hb2⟩))
  all_goals go_wp2
  all_goals go_ret
  all_goals exact ⟨rfl,Grew.below gB⟩
 ·go_enter Tryz.func22,Tryz.ntmps22
  go_upto_region 1 with fail
  go_region_with (first
   | (go_at_call 43;refine (N _).mono ?_;rintro e w1 ⟨rfl,os1,n1,rfl⟩)
   | (go_at_call 44;refine (F _ gB).mono ?_;rintro e w2 ⟨rfl,hb2⟩))
  all_goals go_wp2
  all_goals go_ret
  all_goals refine ⟨rfl,?_⟩
  all_goals exact z0a (Grew.below gB) hb2
end Go.Proofs.YtljkonkfeiojnaaGreatDoor
