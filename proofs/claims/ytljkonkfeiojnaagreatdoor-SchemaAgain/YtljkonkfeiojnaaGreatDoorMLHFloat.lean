/-
  Points of the plane with whole coordinates as numbers: the nearest quotient, the rest and their sizes. Nothing of the program is in it.
  Worlds of several layers: how a cell of an older block reads, and how a store into it goes inward. Nothing of the program is in it.
  Floats of 64 bits that stand for whole numbers: sums, differences, products, the order, and the whole part of a quotient are exact. Nothing of the program is in it.
-/
import Derived.WalkKit
import Derived.Test.YtljkonkfeiojnaaGreatDoorMeDWide3
import Derived.Laws.FloatArith
set_option maxRecDepth 4000
namespace Go.Proofs.YtljkonkfeiojnaaGreatDoor.Ga
theorem z8n {x u A B:Int} (hA:0≤A) (x1:-A≤x) (x2:x≤A) (u1:-B≤u) (u2:u≤B):-(A*B)≤x*u∧x*u≤A*B:=by
 have hB:0≤B:=by omega
 have h1:(x*u).natAbs≤A.natAbs*B.natAbs:=by rw [Int.natAbs_mul];exact Nat.mul_le_mul (by omega) (by omega)
 have h2:((A.natAbs*B.natAbs:Nat):Int)=A*B:=by rw [Int.natCast_mul,Int.natAbs_of_nonneg hA,Int.natAbs_of_nonneg hB]
 omega
def nst (o u:Int):Int:=(2*o+u) / (2*u)
theorem nst_bd (o n:Int) (hn:0<n):2*(n*nst o n)≤2*o+n∧2*o<2*(n*nst o n)+n:=by
 unfold nst
 have h1:=Int.mul_ediv_add_emod (2*o+n) (2*n)
 have h2:=Int.emod_nonneg (2*o+n) (show 2*n≠0 by omega)
 have h3:=Int.emod_lt_of_pos (2*o+n) (show 0<2*n by omega)
 rw [Int.mul_assoc] at h1
 omega
theorem sq_le {r A:Int} (hA:0≤A) (h:r*r≤A*A):-A≤r∧r≤A:=by
 have h1:r.natAbs*r.natAbs≤A.natAbs*A.natAbs:=by
  have e1:=Int.natAbs_mul_self (a:=r)
  have e2:=Int.natAbs_mul_self (a:=A)
  have:((r.natAbs*r.natAbs:Nat):Int)≤((A.natAbs*A.natAbs:Nat):Int):=by rw [e1,e2];exact h
  exact_mod_cast this
 have:=Nat.mul_self_le_mul_self_iff.1 h1
 omega
theorem sq_nn (r:Int):0≤r*r:=by
 have e1:=Int.natAbs_mul_self (a:=r)
 have:0≤((r.natAbs*r.natAbs:Nat):Int):=Int.natCast_nonneg _
 push_cast at this
 omega
theorem norm_zero {u v:Int} (h:u*u+v*v=0):u=0∧v=0:=by
 have h1:=sq_nn u
 have h2:=sq_nn v
 have a:=sq_le (r:=u) (A:=0) (by decide) (by omega)
 have b:=sq_le (r:=v) (A:=0) (by decide) (by omega)
 omega
theorem norm_pos {u v:Int} (h:¬ (u=0∧v=0)):0<u*u+v*v:=by
 have h1:=sq_nn u
 have h2:=sq_nn v
 rcases Int.lt_or_le 0 (u*u+v*v) with h'|h'
 ·exact h'
 ·exact absurd (norm_zero (u:=u) (v:=v) (by omega)) h
def qX (x y u v:Int):Int:=nst (x*u+y*v) (u*u+v*v)
def qY (x y u v:Int):Int:=nst (y*u - x*v) (u*u+v*v)
def rX (x y u v:Int):Int:=x - (u*qX x y u v - v*qY x y u v)
def rY (x y u v:Int):Int:=y - (u*qY x y u v+v*qX x y u v)
theorem rest_half (x y u v:Int) (h:0<u*u+v*v):2*(rX x y u v*rX x y u v+rY x y u v*rY x y u v)≤u*u+v*v:=by
 obtain ⟨a1,a2⟩:=nst_bd (x*u+y*v) (u*u+v*v) h
 obtain ⟨b1,b2⟩:=nst_bd (y*u - x*v) (u*u+v*v) h
 unfold rX rY
 rw [show nst (x*u+y*v) (u*u+v*v)=qX x y u v from rfl] at a1 a2
 rw [show nst (y*u - x*v) (u*u+v*v)=qY x y u v from rfl] at b1 b2
 generalize qX x y u v=c at *
 generalize qY x y u v=d at *
 have m1:=z8n (x:=2*((x*u+y*v) - (u*u+v*v)*c)) (u:=2*((x*u+y*v) - (u*u+v*v)*c)) (A:=u*u+v*v) (B:=u*u+v*v) (by omega) (by omega) (by omega) (by omega) (by omega)
 have m2:=z8n (x:=2*((y*u - x*v) - (u*u+v*v)*d)) (u:=2*((y*u - x*v) - (u*u+v*v)*d)) (A:=u*u+v*v) (B:=u*u+v*v) (by omega) (by omega) (by omega) (by omega) (by omega)
 have id:2*((x*u+y*v) - (u*u+v*v)*c)*(2*((x*u+y*v) - (u*u+v*v)*c))+2*((y*u - x*v) - (u*u+v*v)*d)*(2*((y*u - x*v) - (u*u+v*v)*d))
   = (u*u+v*v)*(4*((x - (u*c - v*d))*(x - (u*c - v*d))+(y - (u*d+v*c))*(y - (u*d+v*c)))):=by grind
 have k:(u*u+v*v)*(4*((x - (u*c - v*d))*(x - (u*c - v*d))+(y - (u*d+v*c))*(y - (u*d+v*c))))≤(u*u+v*v)*(2*(u*u+v*v)):=by
  rw [← id]
  have:(u*u+v*v)*(2*(u*u+v*v))=(u*u+v*v)*(u*u+v*v)+(u*u+v*v)*(u*u+v*v):=by grind
  omega
 have:=Int.le_of_mul_le_mul_left k h
 omega
theorem unit_cases {u v:Int} (h:u*u+v*v=1):(u=1∧v=0)∨(u=-1∧v=0)∨(u=0∧v=1)∨(u=0∧v=-1):=by
 have h1:=sq_nn u
 have h2:=sq_nn v
 have a:=sq_le (r:=u) (A:=1) (by decide) (by omega)
 have b:=sq_le (r:=v) (A:=1) (by decide) (by omega)
 have ha:u=-1∨u=0∨u=1:=by omega
 have hb:v=-1∨v=0∨v=1:=by omega
 rcases ha with rfl|rfl|rfl <;> rcases hb with rfl|rfl|rfl <;> simp_all
theorem quo_bd1 (o n A:Int) (hn:0<n) (h1:-(A*n)≤o) (h2:o≤A*n):-A≤nst o n∧nst o n≤A:=by
 obtain ⟨a1,a2⟩:=nst_bd o n hn
 generalize nst o n=c at *
 constructor
 ·rcases Int.lt_or_le c (-A) with h|h
  ·have:n*c≤n*(-A - 1):=Int.mul_le_mul_of_nonneg_left (by omega) (by omega)
   have e:n*(-A - 1)=-(A*n) - n:=by grind
   omega
  ·exact h
 ·rcases Int.lt_or_le A c with h|h
  ·have:n*(A+1)≤n*c:=Int.mul_le_mul_of_nonneg_left (by omega) (by omega)
   have e:n*(A+1)=A*n+n:=by grind
   omega
  ·exact h
theorem quo_ok (x y u v:Int) (hx:-1048576≤x∧x≤1048576) (hy:-1048576≤y∧y≤1048576) (h:0<u*u+v*v) :
  (-1048576≤qX x y u v∧qX x y u v≤1048576)∧(-1048576≤qY x y u v∧qY x y u v≤1048576):=by
 by_cases h1:u*u+v*v=1
 ·unfold qX qY
  rw [h1]
  rcases unit_cases h1 with ⟨rfl,rfl⟩|⟨rfl,rfl⟩|⟨rfl,rfl⟩|⟨rfl,rfl⟩ <;> unfold nst <;> omega
 ·have mx:=z8n (A:=1048576) (B:=1048576) (by decide) hx.1 hx.2 hx.1 hx.2
  have my:=z8n (A:=1048576) (B:=1048576) (by decide) hy.1 hy.2 hy.1 hy.2
  have id:(x*u+y*v)*(x*u+y*v)+(y*u - x*v)*(y*u - x*v)=(x*x+y*y)*(u*u+v*v):=by grind
  have s1:=sq_nn (x*u+y*v)
  have s2:=sq_nn (y*u - x*v)
  have hb:(x*x+y*y)*(u*u+v*v)≤(1048576*(u*u+v*v))*(1048576*(u*u+v*v)):=by
   have e1:(x*x+y*y)*(u*u+v*v)≤2199023255552*(u*u+v*v):=Int.mul_le_mul_of_nonneg_right (by omega) (by omega)
   have e2:2199023255552*(u*u+v*v)≤(1099511627776*(u*u+v*v))*(u*u+v*v):=by
    have:2*(1099511627776*(u*u+v*v))≤(u*u+v*v)*(1099511627776*(u*u+v*v)):=Int.mul_le_mul_of_nonneg_right (by omega) (by omega)
    have e:(u*u+v*v)*(1099511627776*(u*u+v*v))=(1099511627776*(u*u+v*v))*(u*u+v*v):=Int.mul_comm _ _
    omega
   have e3:(1048576*(u*u+v*v))*(1048576*(u*u+v*v))=(1099511627776*(u*u+v*v))*(u*u+v*v):=by grind
   omega
  have k1:=sq_le (r:=x*u+y*v) (A:=1048576*(u*u+v*v)) (by omega) (by omega)
  have k2:=sq_le (r:=y*u - x*v) (A:=1048576*(u*u+v*v)) (by omega) (by omega)
  exact ⟨quo_bd1 _ _ 1048576 h k1.1 k1.2,quo_bd1 _ _ 1048576 h k2.1 k2.2⟩
theorem rest_ok (x y u v:Int) (hu:-1048576≤u∧u≤1048576) (hv:-1048576≤v∧v≤1048576) (h:0<u*u+v*v) :
  (-1048576≤rX x y u v∧rX x y u v≤1048576)∧(-1048576≤rY x y u v∧rY x y u v≤1048576):=by
 have hh:=rest_half x y u v h
 have mu:=z8n (A:=1048576) (B:=1048576) (by decide) hu.1 hu.2 hu.1 hu.2
 have mv:=z8n (A:=1048576) (B:=1048576) (by decide) hv.1 hv.2 hv.1 hv.2
 have s1:=sq_nn (rX x y u v)
 have s2:=sq_nn (rY x y u v)
 exact ⟨sq_le (A:=1048576) (by decide) (by omega),sq_le (A:=1048576) (by decide) (by omega)⟩
end Go.Proofs.YtljkonkfeiojnaaGreatDoor.Ga

namespace Go.Proofs.YtljkonkfeiojnaaGreatDoor.Ga
open Go.RowKit
theorem z0n {n:Nat} {w:World} (h:n<w.heap.size) (o:Obj):n<(w.alloc o).heap.size:=by simp;omega
theorem cellMA (l0:List Obj) (o1:Obj) (n i:Nat) (w:World) (h:n<w.heap.size):World.cell? (World.alloc (more w l0) o1) ⟨n,i,none⟩=w.cell? ⟨n,i,none⟩ :=
 ((World.cell?_alloc_past o1 n i (z0e h l0)).trans (z0f l0 n i _ h))
theorem frozenMA (l0:List Obj) (o1:Obj) (n i:Nat) (w:World) (h:n<w.heap.size):World.frozen? (World.alloc (more w l0) o1) ⟨n,i,none⟩=w.frozen? ⟨n,i,none⟩ :=
 ((World.frozen?_alloc_past o1 n i (z0e h l0)).trans (z0b l0 n i _ h))
theorem setMA (l0:List Obj) (o1:Obj) (n i:Nat) (v:Value) (w:World) (h:n<w.heap.size):World.setCell (World.alloc (more w l0) o1) ⟨n,i,none⟩ v=(World.alloc (more (w.setCell ⟨n,i,none⟩ v) l0) o1):=by
 rw [World.setCell_alloc_past o1 n i v (z0e h l0),z0c l0 n i v _ h]
theorem cellMAM (l0:List Obj) (o1:Obj) (l2:List Obj) (n i:Nat) (w:World) (h:n<w.heap.size):World.cell? (more (World.alloc (more w l0) o1) l2) ⟨n,i,none⟩=w.cell? ⟨n,i,none⟩ :=
 ((z0f l2 n i _ (z0n (z0e h l0) o1)).trans ((World.cell?_alloc_past o1 n i (z0e h l0)).trans (z0f l0 n i _ h)))
theorem frozenMAM (l0:List Obj) (o1:Obj) (l2:List Obj) (n i:Nat) (w:World) (h:n<w.heap.size):World.frozen? (more (World.alloc (more w l0) o1) l2) ⟨n,i,none⟩=w.frozen? ⟨n,i,none⟩ :=
 ((z0b l2 n i _ (z0n (z0e h l0) o1)).trans ((World.frozen?_alloc_past o1 n i (z0e h l0)).trans (z0b l0 n i _ h)))
theorem setMAM (l0:List Obj) (o1:Obj) (l2:List Obj) (n i:Nat) (v:Value) (w:World) (h:n<w.heap.size):World.setCell (more (World.alloc (more w l0) o1) l2) ⟨n,i,none⟩ v=(more (World.alloc (more (w.setCell ⟨n,i,none⟩ v) l0) o1) l2):=by
 rw [z0c l2 n i v _ (z0n (z0e h l0) o1),World.setCell_alloc_past o1 n i v (z0e h l0),z0c l0 n i v _ h]
theorem cellMAA (l0:List Obj) (o1:Obj) (o2:Obj) (n i:Nat) (w:World) (h:n<w.heap.size):World.cell? (World.alloc (World.alloc (more w l0) o1) o2) ⟨n,i,none⟩=w.cell? ⟨n,i,none⟩ :=
 ((World.cell?_alloc_past o2 n i (z0n (z0e h l0) o1)).trans ((World.cell?_alloc_past o1 n i (z0e h l0)).trans (z0f l0 n i _ h)))
theorem frozenMAA (l0:List Obj) (o1:Obj) (o2:Obj) (n i:Nat) (w:World) (h:n<w.heap.size):World.frozen? (World.alloc (World.alloc (more w l0) o1) o2) ⟨n,i,none⟩=w.frozen? ⟨n,i,none⟩ :=
 ((World.frozen?_alloc_past o2 n i (z0n (z0e h l0) o1)).trans ((World.frozen?_alloc_past o1 n i (z0e h l0)).trans (z0b l0 n i _ h)))
theorem setMAA (l0:List Obj) (o1:Obj) (o2:Obj) (n i:Nat) (v:Value) (w:World) (h:n<w.heap.size):World.setCell (World.alloc (World.alloc (more w l0) o1) o2) ⟨n,i,none⟩ v=(World.alloc (World.alloc (more (w.setCell ⟨n,i,none⟩ v) l0) o1) o2):=by
 rw [World.setCell_alloc_past o2 n i v (z0n (z0e h l0) o1),World.setCell_alloc_past o1 n i v (z0e h l0),z0c l0 n i v _ h]
theorem cellMAAM (l0:List Obj) (o1:Obj) (o2:Obj) (l3:List Obj) (n i:Nat) (w:World) (h:n<w.heap.size):World.cell? (more (World.alloc (World.alloc (more w l0) o1) o2) l3) ⟨n,i,none⟩=w.cell? ⟨n,i,none⟩ :=
 ((z0f l3 n i _ (z0n (z0n (z0e h l0) o1) o2)).trans ((World.cell?_alloc_past o2 n i (z0n (z0e h l0) o1)).trans ((World.cell?_alloc_past o1 n i (z0e h l0)).trans (z0f l0 n i _ h))))
theorem frozenMAAM (l0:List Obj) (o1:Obj) (o2:Obj) (l3:List Obj) (n i:Nat) (w:World) (h:n<w.heap.size):World.frozen? (more (World.alloc (World.alloc (more w l0) o1) o2) l3) ⟨n,i,none⟩=w.frozen? ⟨n,i,none⟩ :=
 ((z0b l3 n i _ (z0n (z0n (z0e h l0) o1) o2)).trans ((World.frozen?_alloc_past o2 n i (z0n (z0e h l0) o1)).trans ((World.frozen?_alloc_past o1 n i (z0e h l0)).trans (z0b l0 n i _ h))))
theorem setMAAM (l0:List Obj) (o1:Obj) (o2:Obj) (l3:List Obj) (n i:Nat) (v:Value) (w:World) (h:n<w.heap.size):World.setCell (more (World.alloc (World.alloc (more w l0) o1) o2) l3) ⟨n,i,none⟩ v=(more (World.alloc (World.alloc (more (w.setCell ⟨n,i,none⟩ v) l0) o1) o2) l3):=by
 rw [z0c l3 n i v _ (z0n (z0n (z0e h l0) o1) o2),World.setCell_alloc_past o2 n i v (z0n (z0e h l0) o1),World.setCell_alloc_past o1 n i v (z0e h l0),z0c l0 n i v _ h]
theorem cellMAMA (l0:List Obj) (o1:Obj) (l2:List Obj) (o3:Obj) (n i:Nat) (w:World) (h:n<w.heap.size):World.cell? (World.alloc (more (World.alloc (more w l0) o1) l2) o3) ⟨n,i,none⟩=w.cell? ⟨n,i,none⟩ :=
 ((World.cell?_alloc_past o3 n i (z0e (z0n (z0e h l0) o1) l2)).trans ((z0f l2 n i _ (z0n (z0e h l0) o1)).trans ((World.cell?_alloc_past o1 n i (z0e h l0)).trans (z0f l0 n i _ h))))
theorem frozenMAMA (l0:List Obj) (o1:Obj) (l2:List Obj) (o3:Obj) (n i:Nat) (w:World) (h:n<w.heap.size):World.frozen? (World.alloc (more (World.alloc (more w l0) o1) l2) o3) ⟨n,i,none⟩=w.frozen? ⟨n,i,none⟩ :=
 ((World.frozen?_alloc_past o3 n i (z0e (z0n (z0e h l0) o1) l2)).trans ((z0b l2 n i _ (z0n (z0e h l0) o1)).trans ((World.frozen?_alloc_past o1 n i (z0e h l0)).trans (z0b l0 n i _ h))))
theorem setMAMA (l0:List Obj) (o1:Obj) (l2:List Obj) (o3:Obj) (n i:Nat) (v:Value) (w:World) (h:n<w.heap.size):World.setCell (World.alloc (more (World.alloc (more w l0) o1) l2) o3) ⟨n,i,none⟩ v=(World.alloc (more (World.alloc (more (w.setCell ⟨n,i,none⟩ v) l0) o1) l2) o3):=by
 rw [World.setCell_alloc_past o3 n i v (z0e (z0n (z0e h l0) o1) l2),z0c l2 n i v _ (z0n (z0e h l0) o1),World.setCell_alloc_past o1 n i v (z0e h l0),z0c l0 n i v _ h]
theorem cellMAMAM (l0:List Obj) (o1:Obj) (l2:List Obj) (o3:Obj) (l4:List Obj) (n i:Nat) (w:World) (h:n<w.heap.size):World.cell? (more (World.alloc (more (World.alloc (more w l0) o1) l2) o3) l4) ⟨n,i,none⟩=w.cell? ⟨n,i,none⟩ :=
 ((z0f l4 n i _ (z0n (z0e (z0n (z0e h l0) o1) l2) o3)).trans ((World.cell?_alloc_past o3 n i (z0e (z0n (z0e h l0) o1) l2)).trans ((z0f l2 n i _ (z0n (z0e h l0) o1)).trans ((World.cell?_alloc_past o1 n i (z0e h l0)).trans (z0f l0 n i _ h)))))
theorem frozenMAMAM (l0:List Obj) (o1:Obj) (l2:List Obj) (o3:Obj) (l4:List Obj) (n i:Nat) (w:World) (h:n<w.heap.size):World.frozen? (more (World.alloc (more (World.alloc (more w l0) o1) l2) o3) l4) ⟨n,i,none⟩=w.frozen? ⟨n,i,none⟩ :=
 ((z0b l4 n i _ (z0n (z0e (z0n (z0e h l0) o1) l2) o3)).trans ((World.frozen?_alloc_past o3 n i (z0e (z0n (z0e h l0) o1) l2)).trans ((z0b l2 n i _ (z0n (z0e h l0) o1)).trans ((World.frozen?_alloc_past o1 n i (z0e h l0)).trans (z0b l0 n i _ h)))))
theorem setMAMAM (l0:List Obj) (o1:Obj) (l2:List Obj) (o3:Obj) (l4:List Obj) (n i:Nat) (v:Value) (w:World) (h:n<w.heap.size):World.setCell (more (World.alloc (more (World.alloc (more w l0) o1) l2) o3) l4) ⟨n,i,none⟩ v=(more (World.alloc (more (World.alloc (more (w.setCell ⟨n,i,none⟩ v) l0) o1) l2) o3) l4):=by
 rw [z0c l4 n i v _ (z0n (z0e (z0n (z0e h l0) o1) l2) o3),World.setCell_alloc_past o3 n i v (z0e (z0n (z0e h l0) o1) l2),z0c l2 n i v _ (z0n (z0e h l0) o1),World.setCell_alloc_past o1 n i v (z0e h l0),z0c l0 n i v _ h]
theorem cellMAMAMA (l0:List Obj) (o1:Obj) (l2:List Obj) (o3:Obj) (l4:List Obj) (o5:Obj) (n i:Nat) (w:World) (h:n<w.heap.size):World.cell? (World.alloc (more (World.alloc (more (World.alloc (more w l0) o1) l2) o3) l4) o5) ⟨n,i,none⟩=w.cell? ⟨n,i,none⟩ :=
 ((World.cell?_alloc_past o5 n i (z0e (z0n (z0e (z0n (z0e h l0) o1) l2) o3) l4)).trans ((z0f l4 n i _ (z0n (z0e (z0n (z0e h l0) o1) l2) o3)).trans ((World.cell?_alloc_past o3 n i (z0e (z0n (z0e h l0) o1) l2)).trans ((z0f l2 n i _ (z0n (z0e h l0) o1)).trans ((World.cell?_alloc_past o1 n i (z0e h l0)).trans (z0f l0 n i _ h))))))
theorem frozenMAMAMA (l0:List Obj) (o1:Obj) (l2:List Obj) (o3:Obj) (l4:List Obj) (o5:Obj) (n i:Nat) (w:World) (h:n<w.heap.size):World.frozen? (World.alloc (more (World.alloc (more (World.alloc (more w l0) o1) l2) o3) l4) o5) ⟨n,i,none⟩=w.frozen? ⟨n,i,none⟩ :=
 ((World.frozen?_alloc_past o5 n i (z0e (z0n (z0e (z0n (z0e h l0) o1) l2) o3) l4)).trans ((z0b l4 n i _ (z0n (z0e (z0n (z0e h l0) o1) l2) o3)).trans ((World.frozen?_alloc_past o3 n i (z0e (z0n (z0e h l0) o1) l2)).trans ((z0b l2 n i _ (z0n (z0e h l0) o1)).trans ((World.frozen?_alloc_past o1 n i (z0e h l0)).trans (z0b l0 n i _ h))))))
theorem setMAMAMA (l0:List Obj) (o1:Obj) (l2:List Obj) (o3:Obj) (l4:List Obj) (o5:Obj) (n i:Nat) (v:Value) (w:World) (h:n<w.heap.size):World.setCell (World.alloc (more (World.alloc (more (World.alloc (more w l0) o1) l2) o3) l4) o5) ⟨n,i,none⟩ v=(World.alloc (more (World.alloc (more (World.alloc (more (w.setCell ⟨n,i,none⟩ v) l0) o1) l2) o3) l4) o5):=by
 rw [World.setCell_alloc_past o5 n i v (z0e (z0n (z0e (z0n (z0e h l0) o1) l2) o3) l4),z0c l4 n i v _ (z0n (z0e (z0n (z0e h l0) o1) l2) o3),World.setCell_alloc_past o3 n i v (z0e (z0n (z0e h l0) o1) l2),z0c l2 n i v _ (z0n (z0e h l0) o1),World.setCell_alloc_past o1 n i v (z0e h l0),z0c l0 n i v _ h]
theorem cellMAMAMAM (l0:List Obj) (o1:Obj) (l2:List Obj) (o3:Obj) (l4:List Obj) (o5:Obj) (l6:List Obj) (n i:Nat) (w:World) (h:n<w.heap.size):World.cell? (more (World.alloc (more (World.alloc (more (World.alloc (more w l0) o1) l2) o3) l4) o5) l6) ⟨n,i,none⟩=w.cell? ⟨n,i,none⟩ :=
 ((z0f l6 n i _ (z0n (z0e (z0n (z0e (z0n (z0e h l0) o1) l2) o3) l4) o5)).trans ((World.cell?_alloc_past o5 n i (z0e (z0n (z0e (z0n (z0e h l0) o1) l2) o3) l4)).trans ((z0f l4 n i _ (z0n (z0e (z0n (z0e h l0) o1) l2) o3)).trans ((World.cell?_alloc_past o3 n i (z0e (z0n (z0e h l0) o1) l2)).trans ((z0f l2 n i _ (z0n (z0e h l0) o1)).trans ((World.cell?_alloc_past o1 n i (z0e h l0)).trans (z0f l0 n i _ h)))))))
theorem frozenMAMAMAM (l0:List Obj) (o1:Obj) (l2:List Obj) (o3:Obj) (l4:List Obj) (o5:Obj) (l6:List Obj) (n i:Nat) (w:World) (h:n<w.heap.size):World.frozen? (more (World.alloc (more (World.alloc (more (World.alloc (more w l0) o1) l2) o3) l4) o5) l6) ⟨n,i,none⟩=w.frozen? ⟨n,i,none⟩ :=
 ((z0b l6 n i _ (z0n (z0e (z0n (z0e (z0n (z0e h l0) o1) l2) o3) l4) o5)).trans ((World.frozen?_alloc_past o5 n i (z0e (z0n (z0e (z0n (z0e h l0) o1) l2) o3) l4)).trans ((z0b l4 n i _ (z0n (z0e (z0n (z0e h l0) o1) l2) o3)).trans ((World.frozen?_alloc_past o3 n i (z0e (z0n (z0e h l0) o1) l2)).trans ((z0b l2 n i _ (z0n (z0e h l0) o1)).trans ((World.frozen?_alloc_past o1 n i (z0e h l0)).trans (z0b l0 n i _ h)))))))
theorem setMAMAMAM (l0:List Obj) (o1:Obj) (l2:List Obj) (o3:Obj) (l4:List Obj) (o5:Obj) (l6:List Obj) (n i:Nat) (v:Value) (w:World) (h:n<w.heap.size):World.setCell (more (World.alloc (more (World.alloc (more (World.alloc (more w l0) o1) l2) o3) l4) o5) l6) ⟨n,i,none⟩ v=(more (World.alloc (more (World.alloc (more (World.alloc (more (w.setCell ⟨n,i,none⟩ v) l0) o1) l2) o3) l4) o5) l6):=by
 rw [z0c l6 n i v _ (z0n (z0e (z0n (z0e (z0n (z0e h l0) o1) l2) o3) l4) o5),World.setCell_alloc_past o5 n i v (z0e (z0n (z0e (z0n (z0e h l0) o1) l2) o3) l4),z0c l4 n i v _ (z0n (z0e (z0n (z0e h l0) o1) l2) o3),World.setCell_alloc_past o3 n i v (z0e (z0n (z0e h l0) o1) l2),z0c l2 n i v _ (z0n (z0e h l0) o1),World.setCell_alloc_past o1 n i v (z0e h l0),z0c l0 n i v _ h]
theorem more_count (os:List Obj):∀ w:World,(more w os).heap.size=w.heap.size+os.length:=by
 induction os with
 | nil=>intro w;rfl
 | cons o os ih=>intro w;show (more (w.alloc o) os).heap.size=_;rw [ih];simp;omega
def blank:Obj:=Obj.cells #[] 0
theorem size_blank (cs:Array Value) (t:TypeId) (l:List Obj) (w:World):(more (w.alloc (Obj.cells cs t)) l).heap.size=(more (w.alloc blank) l).heap.size:=by
 rw [more_count,more_count];simp
end Go.Proofs.YtljkonkfeiojnaaGreatDoor.Ga

namespace Go.Proofs.YtljkonkfeiojnaaGreatDoor.Ga
open Ieee
theorem two_ne:(2:Rat)≠0:=by decide
theorem two_pos:(0:Rat)<2:=by decide
theorem zp (i j:Int):(2:Rat)^(i+j)=2^i*2^j:=Rat.zpow_add two_ne i j
theorem z4s (i:Int):(0:Rat)<2^i:=Rat.zpow_pos two_pos
theorem z2x (k:Nat):(2:Rat)^(k:Int)=((2^k:Nat):Rat):=by
 rw [Rat.zpow_natCast]
 induction k with
 | zero=>rfl
 | succ k ih=>rw [Rat.pow_succ,ih,Nat.pow_succ];push_cast;rfl
def z2v (s:Bool) (m:Nat) (i:Int):Rat:=(if s then -(m:Rat) else (m:Rat))*2^i
theorem read_word (s:Bool) (r:Nat) (h1:4503599627370496≤r) (h2:r<9218868437227405312) :
  double.read (double.word s r)=.number s (4503599627370496+r%4503599627370496) (-1074+((r / 4503599627370496 - 1:Nat):Int)):=by
 have hw:double.signWeight=9223372036854775808:=by decide
 have hb:double.binade=4503599627370496:=by decide
 have hi:double.infRung=9218868437227405312:=by decide
 have hl:double.leastPlace=-1074:=by decide
 unfold Format.read Format.word
 rw [hw,hb,hi,hl]
 have hr:(if s=true then 9223372036854775808+r else r)%9223372036854775808=r:=by cases s <;> simp <;> omega
 have hn:((if s=true then 9223372036854775808+r else r) / 9223372036854775808%2==1)=s:=by
  cases s
  ·simp;omega
  ·simp;omega
 dsimp only
 rw [hr,hn,if_neg (by omega),if_pos h2]
theorem read_zero (s:Bool):double.read (double.word s 0)=.number s 0 (-1074):=by cases s <;> decide
theorem z7d (s:Bool) (n d:Nat) (hd:d≤n.log2+2) (h:2^d ∣ n):Toward.even.cut s n d=n / 2^d:=by
 unfold Toward.cut
 have hm:min d (n.log2+2)=d:=Nat.min_eq_left hd
 have h0:n%2^d=0:=Nat.mod_eq_zero_of_dvd h
 have hp:0<2^d:=Nat.two_pow_pos d
 rw [hm,Nat.one_shiftLeft]
 simp [h0]
theorem near_gen (s:Bool) (mag:Nat) (place e:Int) (K:Nat) (hm:mag≠0) (he:e=place+mag.log2 - 52) (h1:-1074≤e) (h2:e≤900)
  (hK:Toward.even.cut s (mag <<< (place - e).toNat) (e - place).toNat=K) (hK1:4503599627370496≤K) (hK2:K≤9007199254740992) :
  ∃ m i,double.read (double.nearest s mag place)=.number s m i∧((m=K∧i=e)∨(K=9007199254740992∧m=4503599627370496∧i=e+1)):=by
 have hb:double.binade=4503599627370496:=by decide
 have hi:double.infRung=9218868437227405312:=by decide
 have hl:double.leastPlace=-1074:=by decide
 have hf:(double.fractionBits:Int)=52:=by decide
 unfold Format.nearest
 rw [if_neg hm,hb,hi,hl,hf]
 have hx:max (place+(mag.log2:Int) - 52) (-1074)=e:=by omega
 dsimp only
 rw [hx,hK]
 obtain ⟨E,hE⟩:∃ E:Nat,e - -1074=(E:Int):=⟨(e - -1074).toNat,by omega⟩
 have hEt:(e - -1074).toNat=E:=by omega
 rw [hEt,Nat.min_eq_left (by omega),read_word s _ (by omega) (by omega)]
 refine ⟨_,_,rfl,?_⟩
 by_cases hc:K=9007199254740992
 ·exact Or.inr ⟨hc,by subst hc;omega,by subst hc;omega⟩
 ·exact Or.inl ⟨by omega,by omega⟩
theorem log2_le (n:Nat) (h:n≠0):2^n.log2≤n:=Nat.log2_self_le h
theorem z8m (n:Nat):n<2^(n.log2+1):=Nat.lt_log2_self
theorem zp_lt {i j:Int} (h:(2:Rat)^i<2^j):i<j:=by
 rcases Int.lt_or_le i j with h'|h'
 ·exact h'
 ·exfalso
  obtain ⟨k,hk⟩:∃ k:Nat,i=j+k:=⟨(i - j).toNat,by omega⟩
  rw [hk,zp,z2x] at h
  have hp:=z4s j
  have h1:(1:Rat)≤((2^k:Nat):Rat):=by
   have:(1:Nat)≤2^k:=Nat.two_pow_pos k
   exact_mod_cast this
  have:=Rat.mul_le_mul_of_nonneg_left h1 (Rat.le_of_lt hp)
  grind
theorem nearest_zero (s:Bool) (place:Int):double.read (double.nearest s 0 place)=.number s 0 (-1074):=by
 unfold Format.nearest;rw [if_pos rfl];exact read_zero s
theorem near_exact (s:Bool) (mag:Nat) (place:Int) (N:Nat) (hN:N<9007199254740992) (h:(mag:Rat)*2^place=(N:Rat)) :
  ∃ m i,double.read (double.nearest s mag place)=.number s m i∧(m:Rat)*2^i=(N:Rat):=by
 by_cases hm:mag=0
 ·subst hm
  refine ⟨0,-1074,nearest_zero s place,?_⟩
  rw [← h];exact (Rat.zero_mul _).trans (Rat.zero_mul _).symm
 ·have hp:=z4s place
  have hl1:=log2_le mag hm
  have hl2:=z8m mag
  generalize hL:mag.log2=L at *
  have hN1:1≤N:=by
   rcases Nat.eq_zero_or_pos N with h0|h0
   ·exfalso;subst h0
    have:(0:Rat)<(mag:Rat):=by exact_mod_cast Nat.pos_of_ne_zero hm
    have:=Rat.mul_pos this hp
    grind
   ·exact h0
  have hlow:-1<(L:Int)+place:=by
   have h1:(mag:Rat)<((2^(L+1):Nat):Rat):=by exact_mod_cast hl2
   have h2:(1:Rat)≤(N:Rat):=by exact_mod_cast hN1
   have h3:(2:Rat)^(0:Int)<2^(((L+1:Nat):Int)+place):=by
    rw [zp,z2x,Rat.zpow_zero]
    have:=Rat.mul_lt_mul_of_pos_right h1 hp
    grind
   have:=zp_lt h3
   omega
  have hhigh:(L:Int)+place<53:=by
   have h1:((2^L:Nat):Rat)≤(mag:Rat):=by exact_mod_cast hl1
   have h2:(N:Rat)<((2^53:Nat):Rat):=by exact_mod_cast hN
   have h3:(2:Rat)^((L:Int)+place)<2^((53:Nat):Int):=by
    rw [zp,z2x,z2x]
    have:=Rat.mul_le_mul_of_nonneg_right h1 (Rat.le_of_lt hp)
    grind
   have:=zp_lt h3
   omega
  have h53:(2:Nat)^53=9007199254740992:=by decide
  have h52:(2:Nat)^52=4503599627370496:=by decide
  rcases Int.lt_or_le place (place+L - 52) with hc|hc
  ·-- digits are dropped,all of them 0
   obtain ⟨d,hd⟩:∃ d:Nat,L=52+d:=⟨L - 52,by omega⟩
   have hneg:place<0:=by
    rcases Int.lt_or_le place 0 with h'|h'
    ·exact h'
    ·omega
   obtain ⟨p,hpp⟩:∃ p:Nat,place=-(p:Int):=⟨(-place).toNat,by omega⟩
   have hmag:mag=N*2^p:=by
    have h1:(mag:Rat)=(N:Rat)*((2^p:Nat):Rat):=by
     rw [← z2x,← h,hpp,Rat.mul_assoc,← zp,show -(p:Int)+p=0 by omega,Rat.zpow_zero,Rat.mul_one]
    exact_mod_cast h1
   have hdv:2^d ∣ mag:=by
    rw [hmag]
    exact Nat.dvd_trans (Nat.pow_dvd_pow 2 (by omega)) (Nat.dvd_mul_left _ _)
   obtain ⟨K,hK⟩:=hdv
   have hpd:0<2^d:=Nat.two_pow_pos d
   have hcut:Toward.even.cut s (mag <<< (place - (place+L - 52)).toNat) ((place+L - 52) - place).toNat=K:=by
    have e1:(place - (place+L - 52)).toNat=0:=by omega
    have e2:((place+L - 52) - place).toNat=d:=by omega
    rw [e1,e2,Nat.shiftLeft_zero,z7d s mag d (by omega) ⟨K,hK⟩,hK,Nat.mul_div_cancel_left _ hpd]
   have hKlo:4503599627370496≤K:=by
    rw [← h52]
    have:2^d*2^52≤2^d*K:=by rw [← hK,← Nat.pow_add,Nat.add_comm d 52,← hd];exact hl1
    exact Nat.le_of_mul_le_mul_left this hpd
   have hKhi:K<9007199254740992:=by
    rw [← h53]
    have:2^d*K<2^d*2^53:=by
     rw [← hK,← Nat.pow_add]
     have:d+53=L+1:=by omega
     rw [this];exact hl2
    exact Nat.lt_of_mul_lt_mul_left this
   obtain ⟨m,i,hr,hmi⟩:=near_gen s mag place (place+L - 52) K hm (by omega) (by omega) (by omega) hcut hKlo (by omega)
   rcases hmi with ⟨rfl,rfl⟩|⟨h',_⟩
   ·refine ⟨_,_,hr,?_⟩
    have e3:place+(L:Int) - 52=(d:Int)+place:=by omega
    rw [e3,zp,z2x,← h,hK]
    push_cast
    grind
   ·omega
  ·obtain ⟨k,hk⟩:∃ k:Nat,L+k=52:=⟨52 - L,by omega⟩
   have hcut:Toward.even.cut s (mag <<< (place - (place+L - 52)).toNat) ((place+L - 52) - place).toNat=mag*2^k:=by
    have e1:(place - (place+L - 52)).toNat=k:=by omega
    have e2:((place+L - 52) - place).toNat=0:=by omega
    rw [e1,e2,z7d s _ 0 (by omega) (by simp),Nat.shiftLeft_eq]
    simp
   have hpk:0<2^k:=Nat.two_pow_pos k
   have hKlo:4503599627370496≤mag*2^k:=by
    rw [← h52,← hk,Nat.pow_add]
    exact Nat.mul_le_mul_right _ hl1
   have hKhi:mag*2^k<9007199254740992:=by
    have e4:(9007199254740992:Nat)=2^(L+1)*2^k:=by
     rw [← Nat.pow_add,← h53];congr 1;omega
    rw [e4]
    exact Nat.mul_lt_mul_of_pos_right hl2 hpk
   obtain ⟨m,i,hr,hmi⟩:=near_gen s mag place (place+L - 52) (mag*2^k) hm (by omega) (by omega) (by omega) hcut hKlo (by omega)
   rcases hmi with ⟨rfl,rfl⟩|⟨h',_⟩
   ·refine ⟨_,_,hr,?_⟩
    have e3:place=(k:Int)+(place+(L:Int) - 52):=by omega
    rw [← h]
    conv=>rhs;rw [e3,zp,z2x]
    push_cast
    grind
   ·omega
def FI (b:Nat) (n:Int):Prop:=b<18446744073709551616∧∃ s m i,double.read b=.number s m i∧z2v s m i=(n:Rat)
theorem icast (m:Nat):(((m:Nat):Int):Rat)=(m:Rat):=by push_cast;rfl
theorem z4g {s:Bool} {m:Nat} {i:Int} {n:Int} (h:z2v s m i=(n:Rat)):(m:Rat)*2^i=(n.natAbs:Rat):=by
 have hp:=z4s i
 have hm:(0:Rat)≤(m:Rat):=Rat.natCast_nonneg
 have h0:=Rat.mul_nonneg hm (Rat.le_of_lt hp)
 rcases Int.natAbs_eq n with hn|hn
 ·cases s with
  | false=>rw [hn,icast] at h;simpa [z2v] using h
  | true =>
   simp only [z2v,if_true] at h
   have h1:(0:Rat)≤((n.natAbs:Nat):Rat):=Rat.natCast_nonneg
   rw [hn] at h
   have h2:-((m:Rat)*2^i)=((n.natAbs:Int):Rat):=by rw [← h];grind
   have h3:(((n.natAbs:Nat):Int):Rat)=((n.natAbs:Nat):Rat):=by push_cast;rfl
   rw [h3] at h2
   grind
 ·cases s with
  | true =>
   simp only [z2v,if_true] at h
   rw [hn] at h
   have h3:((-((n.natAbs:Nat):Int):Int):Rat)=-((n.natAbs:Nat):Rat):=by push_cast;rfl
   rw [h3] at h
   grind
  | false =>
   have h1:(0:Rat)≤((n.natAbs:Nat):Rat):=Rat.natCast_nonneg
   rw [hn] at h
   have h3:((-((n.natAbs:Nat):Int):Int):Rat)=-((n.natAbs:Nat):Rat):=by push_cast;rfl
   rw [h3] at h
   simp [z2v] at h
   grind
theorem z5x (s:Bool) (mag:Nat) (place:Int) (n:Int) (hn:-9007199254740992<n∧n<9007199254740992) (h:z2v s mag place=(n:Rat)) :
  FI (double.write (.number s mag place)) n:=by
 refine ⟨double.write_lt _,?_⟩
 obtain ⟨m,i,hr,hv⟩:=near_exact s mag place n.natAbs (by omega) (z4g h)
 refine ⟨s,m,i,hr,?_⟩
 have h1:=z4g h
 rw [← h]
 unfold z2v
 cases s <;> simp <;> grind
theorem z0v (n:Int) (hn:-9007199254740992<n∧n<9007199254740992):FI (floatOfInt .f64 n) n:=by
 refine z5x (decide (n<0)) n.natAbs 0 n hn ?_
 unfold z2v
 rw [Rat.zpow_zero,Rat.mul_one]
 by_cases h:n<0
 ·simp only [h,decide_true,if_true]
  have:(n:Rat)=((-(n.natAbs:Int):Int):Rat):=by congr 1;omega
  rw [this];push_cast;rfl
 ·simp only [h,decide_false]
  have:(n:Rat)=(((n.natAbs:Int):Int):Rat):=by congr 1;omega
  rw [this];push_cast;rfl
theorem signed_rat (s:Bool) (m k:Nat):((signed s m k:Int):Rat)=(if s then -(m:Rat) else (m:Rat))*((2^k:Nat):Rat):=by
 unfold signed
 rw [Nat.shiftLeft_eq]
 cases s
 ·rw [if_neg (by decide),if_neg (by decide),icast];push_cast;rfl
 ·rw [if_pos rfl,if_pos rfl,Rat.intCast_neg,icast];push_cast;grind
theorem z7c (s:Bool) (m:Nat) (i base:Int) (h:base≤i):z2v s m i=((signed s m (i - base).toNat:Int):Rat)*2^base:=by
 rw [signed_rat,← z2x,Rat.mul_assoc,← zp]
 unfold z2v
 congr 2
 omega
theorem worth_of_int (t:Int) (z:Bool) (base:Int):z2v (if t=0 then z else decide (t<0)) t.natAbs base=(t:Rat)*2^base:=by
 unfold z2v
 by_cases h0:t=0
 ·subst h0;cases z <;> simp
 ·by_cases h:t<0
  ·simp only [h0,h,decide_true,if_true,if_false]
   have:(t:Rat)=((-(t.natAbs:Int):Int):Rat):=by congr 1;omega
   rw [this];push_cast;rfl
  ·simp only [h0,h,decide_false,if_false]
   have:(t:Rat)=(((t.natAbs:Int):Int):Rat):=by congr 1;omega
   rw [this];push_cast;rfl
theorem sum_worth (s t:Bool) (m n:Nat) (i j:Int):∃ u k b,Datum.sum (.number s m i) (.number t n j)=some (.number u k b)∧z2v u k b=z2v s m i+z2v t n j:=by
 refine ⟨_,_,_,rfl,?_⟩
 rw [worth_of_int,z7c s m i (min i j) (by omega),z7c t n j (min i j) (by omega)]
 push_cast
 grind
theorem FI.add {a b:Nat} {x y:Int} (ha:FI a x) (hb:FI b y) (h:-9007199254740992<x+y∧x+y<9007199254740992):∃ r,floatBits .add .f64 a b=some r∧FI r (x+y):=by
 obtain ⟨_,s,m,i,hr,hv⟩:=ha
 obtain ⟨_,t,n,j,hr',hv'⟩:=hb
 obtain ⟨u,k,base,hs,hw⟩:=sum_worth s t m n i j
 refine ⟨double.write (.number u k base),?_,z5x u k base (x+y) h ?_⟩
 ·show double.add a b=_
  unfold Format.add
  rw [hr,hr',hs];rfl
 ·rw [hw,hv,hv'];push_cast;rfl
theorem worth_opp (s:Bool) (m:Nat) (i:Int):z2v (!s) m i=-z2v s m i:=by
 unfold z2v;cases s <;> simp <;> grind
theorem FI.sub {a b:Nat} {x y:Int} (ha:FI a x) (hb:FI b y) (h:-9007199254740992<x - y∧x - y<9007199254740992):∃ r,floatBits .sub .f64 a b=some r∧FI r (x - y):=by
 obtain ⟨_,s,m,i,hr,hv⟩:=ha
 obtain ⟨_,t,n,j,hr',hv'⟩:=hb
 obtain ⟨u,k,base,hs,hw⟩:=sum_worth s (!t) m n i j
 refine ⟨double.write (.number u k base),?_,z5x u k base (x - y) h ?_⟩
 ·show double.sub a b=_
  unfold Format.sub
  rw [hr,hr']
  show Option.map _ (Datum.sum (.number s m i) (.number (!t) n j))=_
  rw [hs];rfl
 ·rw [hw,worth_opp,hv,hv'];push_cast;grind
theorem FI.mul {a b:Nat} {x y:Int} (ha:FI a x) (hb:FI b y) (h:-9007199254740992<x*y∧x*y<9007199254740992):∃ r,floatBits .mul .f64 a b=some r∧FI r (x*y):=by
 obtain ⟨_,s,m,i,hr,hv⟩:=ha
 obtain ⟨_,t,n,j,hr',hv'⟩:=hb
 refine ⟨double.write (.number (s ^^ t) (m*n) (i+j)),?_,z5x _ _ _ (x*y) h ?_⟩
 ·show double.mul a b=_
  unfold Format.mul
  rw [hr,hr'];rfl
 ·rw [Rat.intCast_mul,← hv,← hv']
  unfold z2v
  rw [zp]
  cases s <;> cases t <;> simp <;> grind
theorem FI.neg {a:Nat} {x:Int} (ha:FI a x):FI (Op.negFloat .f64 a) (-x):=by
 obtain ⟨hl,s,m,i,hr,hv⟩:=ha
 have hx:Op.negFloat .f64 a=if a<9223372036854775808 then a+9223372036854775808 else a - 9223372036854775808:=by
  show a ^^^ 2^63=_
  have h1:(a ^^^ 2^63) / 2^63=a / 2^63 ^^^ 1:=by rw [Nat.xor_div_two_pow]
  have h2:(a ^^^ 2^63)%2^63=a%2^63:=by rw [Nat.xor_mod_two_pow,Nat.mod_self,Nat.xor_zero]
  have h3:=Nat.div_add_mod (a ^^^ 2^63) (2^63)
  rw [h1,h2] at h3
  rw [← h3]
  split
  ·have:a / 2^63=0:=by omega
   rw [this]
   show 2^63*1+a%2^63=_
   omega
  ·have:a / 2^63=1:=by omega
   rw [this]
   show 2^63*0+a%2^63=_
   omega
 refine ⟨by rw [hx];split <;> omega,!s,m,i,?_,by rw [worth_opp,hv];push_cast;rfl⟩
 have hw:double.signWeight=9223372036854775808:=by decide
 have hq:double.read (Op.negFloat .f64 a)=(double.read a).opposite:=by
  rw [hx]
  unfold Format.read
  rw [hw]
  have hr:(if a<9223372036854775808 then a+9223372036854775808 else a - 9223372036854775808)%9223372036854775808=a%9223372036854775808:=by split <;> omega
  have hn:((if a<9223372036854775808 then a+9223372036854775808 else a - 9223372036854775808) / 9223372036854775808%2==1)=!(a / 9223372036854775808%2==1):=by
   have:a / 9223372036854775808=0∨a / 9223372036854775808=1:=by omega
   split
   ·have h1:(a+9223372036854775808) / 9223372036854775808=1:=by omega
    have h2:a / 9223372036854775808=0:=by omega
    rw [h1,h2];rfl
   ·have h1:(a - 9223372036854775808) / 9223372036854775808=0:=by omega
    have h2:a / 9223372036854775808=1:=by omega
    rw [h1,h2];rfl
  dsimp only
  rw [hr,hn]
  split
  ·rfl
  ·split
   ·rfl
   ·split <;> rfl
 rw [hq,hr];rfl
theorem FI.order {a b:Nat} {x y:Int} (ha:FI a x) (hb:FI b y):FloatKind.f64.format.order a b=some (compare x y):=by
 obtain ⟨_,s,m,i,hr,hv⟩:=ha
 obtain ⟨_,t,n,j,hr',hv'⟩:=hb
 show double.order a b=_
 unfold Format.order
 rw [hr,hr']
 show some (compare (signed s m (i - min i j).toNat) (signed t n (j - min i j).toNat))=_
 have h1:=z7c s m i (min i j) (by omega)
 have h2:=z7c t n j (min i j) (by omega)
 rw [hv] at h1
 rw [hv'] at h2
 have hp:=z4s (min i j)
 generalize signed s m (i - min i j).toNat=A at *
 generalize signed t n (j - min i j).toNat=B at *
 generalize (2:Rat)^(min i j)=p at *
 congr 1
 have hlt:x<y↔A<B:=by
  rw [← Rat.intCast_lt_intCast,← @Rat.intCast_lt_intCast A B,h1,h2]
  constructor
  ·intro h
   exact Rat.lt_of_mul_lt_mul_right h (Rat.le_of_lt hp)
  ·intro h
   exact Rat.mul_lt_mul_of_pos_right h hp
 have hgt:y<x↔B<A:=by
  rw [← Rat.intCast_lt_intCast,← @Rat.intCast_lt_intCast B A,h1,h2]
  constructor
  ·intro h
   exact Rat.lt_of_mul_lt_mul_right h (Rat.le_of_lt hp)
  ·intro h
   exact Rat.mul_lt_mul_of_pos_right h hp
 show compareOfLessAndEq A B=compareOfLessAndEq x y
 unfold compareOfLessAndEq
 by_cases h:x<y
 ·rw [if_pos h,if_pos (hlt.1 h)]
 ·rw [if_neg h,if_neg (fun hh=>h (hlt.2 hh))]
  by_cases hg:y<x
  ·rw [if_neg (by omega),if_neg (by have:=hgt.1 hg;omega)]
  ·have e1:x=y:=by omega
   have e2:A=B:=by
    have:=fun hh=>h (hlt.2 hh)
    have:=fun hh=>hg (hgt.2 hh)
    omega
   rw [if_pos e1,if_pos e2]
theorem cut_gap (n d:Nat):n / 2^min d (n.log2+2)=n / 2^d∧n%2^min d (n.log2+2)=n%2^d:=by
 rcases Nat.lt_or_ge (n.log2+2) d with h|h
 ·have h1:n<2^(n.log2+2):=Nat.lt_trans (z8m n) (Nat.pow_lt_pow_right (by omega) (by omega))
  have h2:n<2^d:=Nat.lt_trans h1 (Nat.pow_lt_pow_right (by omega) h)
  rw [Nat.min_eq_right (by omega),Nat.div_eq_of_lt h1,Nat.div_eq_of_lt h2,Nat.mod_eq_of_lt h1,Nat.mod_eq_of_lt h2]
  exact ⟨rfl,rfl⟩
 ·rw [Nat.min_eq_left h]
  exact ⟨rfl,rfl⟩
theorem cut_zero (s:Bool) (n d:Nat):Toward.zero.cut s n d=n / 2^d:=by
 unfold Toward.cut
 rw [Nat.one_shiftLeft]
 simp [(cut_gap n d).1]
theorem cut_down (s:Bool) (n d:Nat):Toward.down.cut s n d=n / 2^d+(s&&n%2^d != 0).toNat:=by
 unfold Toward.cut
 rw [Nat.one_shiftLeft]
 simp [(cut_gap n d).1,(cut_gap n d).2]
theorem worth_nat (m:Nat) (i:Int):(m:Rat)*2^i*((2^(-i).toNat:Nat):Rat)=((m <<< i.toNat:Nat):Rat):=by
 rw [Nat.shiftLeft_eq,← z2x,Rat.mul_assoc,← zp]
 rw [show i+((-i).toNat:Int)=(i.toNat:Int) by omega,z2x]
 push_cast
 rfl
theorem FI.toInt {a:Nat} {x:Int} (ha:FI a x) (h:-9007199254740992<x∧x<9007199254740992):floatToIntVal .f64 a .i64=some x:=by
 obtain ⟨_,s,m,i,hr,hv⟩:=ha
 have hv1:=z4g hv
 have hw:=worth_nat m i
 rw [hv1] at hw
 have hN:x.natAbs*2^(-i).toNat=m <<< i.toNat:=by exact_mod_cast hw
 have hc:Toward.zero.cut s (m <<< i.toNat) (-i).toNat=x.natAbs:=by
  rw [cut_zero,← hN,Nat.mul_div_cancel _ (Nat.two_pow_pos _)]
 have hs:signed s x.natAbs 0=x:=by
  unfold signed
  rw [Nat.shiftLeft_zero]
  have hp:=z4s i
  have hm0:(0:Rat)≤(m:Rat)*2^i:=Rat.mul_nonneg Rat.natCast_nonneg (Rat.le_of_lt hp)
  cases s
  ·rw [if_neg (by decide)]
   have:(0:Rat)≤(x:Rat):=by rw [← hv];unfold z2v;simpa using hm0
   have:=Rat.intCast_nonneg.1 this
   omega
  ·rw [if_pos rfl]
   have:(x:Rat)≤0:=by rw [← hv];unfold z2v;simp;grind
   have:=Rat.intCast_nonpos.1 this
   omega
 have ht:(FloatKind.f64.decode a).toInt .zero=some x:=by
  show (double.read a).toInt .zero=_
  rw [hr]
  show some (signed s (Toward.zero.cut s (m <<< i.toNat) (-i).toNat) 0)=_
  rw [hc,hs]
 unfold floatToIntVal
 rw [ht]
 have h1:IntKind.i64.min≤x∧x≤IntKind.i64.max:=by
  show (-9223372036854775808:Int)≤x∧x≤(9223372036854775807:Int)
  omega
 show (if IntKind.i64.min≤x∧x≤IntKind.i64.max then some x else none)=some x
 rw [if_pos h1]
theorem z5n {s:Bool} {m:Nat} {i x:Int} (hv:z2v s m i=(x:Rat)) (hx:x≠0):s=decide (x<0):=by
 have hp:=z4s i
 have hm0:(0:Rat)≤(m:Rat)*2^i:=Rat.mul_nonneg Rat.natCast_nonneg (Rat.le_of_lt hp)
 cases s
 ·have:(0:Rat)≤(x:Rat):=by rw [← hv];unfold z2v;simpa using hm0
  have:=Rat.intCast_nonneg.1 this
  simp;omega
 ·have:(x:Rat)≤0:=by rw [← hv];unfold z2v;simp;grind
  have:=Rat.intCast_nonpos.1 this
  simp;omega
theorem FI.floor {a:Nat} {x:Int} (ha:FI a x) (h:-9007199254740992<x∧x<9007199254740992):FI (double.write ((double.read a).integral .down)) x:=by
 obtain ⟨_,s,m,i,hr,hv⟩:=ha
 have hv1:=z4g hv
 have hw:=worth_nat m i
 rw [hv1] at hw
 have hN:x.natAbs*2^(-i).toNat=m <<< i.toNat:=by exact_mod_cast hw
 have hc:Toward.down.cut s (m <<< i.toNat) (-i).toNat=x.natAbs:=by
  rw [cut_down,← hN,Nat.mul_div_cancel _ (Nat.two_pow_pos _),Nat.mul_mod_left]
  simp
 rw [hr]
 show FI (double.write (.number s (Toward.down.cut s (m <<< i.toNat) (-i).toNat) 0)) x
 rw [hc]
 refine z5x s _ 0 x h ?_
 unfold z2v
 rw [Rat.zpow_zero,Rat.mul_one]
 by_cases hx:x=0
 ·subst hx;cases s <;> rfl
 ·rw [z5n hv hx]
  by_cases hn:x<0
  ·have:(x:Rat)=((-(x.natAbs:Int):Int):Rat):=by congr 1;omega
   simp only [hn,decide_true,if_true]
   rw [this];push_cast;rfl
  ·have:(x:Rat)=(((x.natAbs:Int):Int):Rat):=by congr 1;omega
   simp only [hn,decide_false]
   rw [this];push_cast;rfl
theorem cut_even_near (s:Bool) (q d:Nat) (hl:d≤q.log2+2):2*(Toward.even.cut s q d*2^d)≤2*q+2^d∧2*q≤2*(Toward.even.cut s q d*2^d)+2^d∧q / 2^d≤Toward.even.cut s q d∧Toward.even.cut s q d≤q / 2^d+1:=by
 unfold Toward.cut
 rw [Nat.one_shiftLeft,Nat.min_eq_left hl]
 have hp:0<2^d:=Nat.two_pow_pos d
 have h1:=Nat.div_add_mod q (2^d)
 have h2:=Nat.mod_lt q hp
 dsimp only
 generalize q / 2^d=A at *
 generalize q%2^d=R at *
 generalize 2^d=G at *
 by_cases hc:(decide (G<2*R) || (G==2*R&&A%2==1))=true
 ·rw [hc]
  simp only [Bool.toNat_true]
  have h3:G≤2*R:=by
   rcases Bool.or_eq_true_iff.1 hc with h|h
   ·have:=of_decide_eq_true h;omega
   ·have:=(Bool.and_eq_true_iff.1 h).1;have:=eq_of_beq this;omega
  have:(A+1)*G=G*A+G:=by rw [Nat.add_mul,Nat.mul_comm,Nat.one_mul]
  omega
 ·have hc':=Bool.not_eq_true _▸hc
  rw [hc']
  simp only [Bool.toNat_false,Nat.add_zero]
  have h3:2*R≤G:=by
   have:=(Bool.or_eq_false_iff.1 hc').1
   have:=of_decide_eq_false this
   omega
  have:A*G=G*A:=Nat.mul_comm _ _
  omega
theorem zp_sub (i:Int) (k:Nat):(2:Rat)^(i - k)*((2^k:Nat):Rat)=2^i:=by
 rw [← z2x,← zp];congr 1;omega
theorem FI.quo_whole {a b:Nat} {y k:Int} (ha:FI a (y*k)) (hb:FI b y) (hy:0<y) (hk:-4503599627370496<k∧k<4503599627370496):∃ r,floatBits .quo .f64 a b=some r∧FI r k:=by
 obtain ⟨_,s,m,i,hr,hv⟩:=ha
 obtain ⟨_,t,n,j,hr',hv'⟩:=hb
 have hV:=z4g hv
 have hV':=z4g hv'
 have ht:t=false:=by rw [z5n hv' (by omega)];simp;omega
 subst ht
 have hn:n≠0:=by
  rintro rfl
  rw [show ((0:Nat):Rat)=0 from rfl,Rat.zero_mul] at hV'
  have:y.natAbs=0:=by exact_mod_cast hV'.symm
  omega
 have hq:double.div a b=some (double.write (.number (s ^^ false) (2*((m <<< (54+n.log2 - m.log2)) / n)+((m <<< (54+n.log2 - m.log2))%n != 0).toNat) (i - j - ((54+n.log2 - m.log2:Nat):Int) - 1))):=by
  unfold Format.div
  rw [hr,hr']
  unfold Datum.quotient
  dsimp only
  rw [if_neg hn]
  rfl
 generalize hmore:54+n.log2 - m.log2=more at hq
 have hdiv:∃ c:Nat,m <<< more=n*c∧(c:Rat)*2^(i - j - (more:Int))=(k.natAbs:Rat):=by
  have hyk:(y*k).natAbs=y.natAbs*k.natAbs:=Int.natAbs_mul y k
  rw [hyk] at hV
  push_cast at hV
  rw [← hV'] at hV
  by_cases hm:m=0
  ·subst hm
   refine ⟨0,by simp,?_⟩
   have h0:(k.natAbs:Rat)=0:=by
    have hp:=z4s j
    have hnn:(0:Rat)<(n:Rat):=by exact_mod_cast Nat.pos_of_ne_zero hn
    have hpp:=Rat.mul_pos hnn hp
    have:(n:Rat)*2^j*(k.natAbs:Rat)=0:=by rw [← hV];exact Rat.zero_mul _
    rcases Rat.mul_eq_zero.1 this with h|h
    ·grind
    ·exact h
   rw [h0];exact Rat.zero_mul _
  ·have hln:=log2_le n hn
   have hln':=z8m n
   have hlm:=log2_le m hm
   have hlm':=z8m m
   generalize n.log2=ln at *
   generalize m.log2=lm at *
   have hk0:0<k.natAbs:=by
    rcases Nat.eq_zero_or_pos k.natAbs with h|h
    ·exfalso
     rw [h] at hV
     have hp:=z4s i
     have hmm:(0:Rat)<(m:Rat):=by exact_mod_cast Nat.pos_of_ne_zero hm
     have:=Rat.mul_pos hmm hp
     rw [hV,show ((0:Nat):Rat)=0 from rfl,Rat.mul_zero] at this
     exact absurd this (by decide)
    ·exact h
   have hbig:lm+i<ln+1+j+52:=by
    have h1:((2^lm:Nat):Rat)≤(m:Rat):=by exact_mod_cast hlm
    have h2:(n:Rat)<((2^(ln+1):Nat):Rat):=by exact_mod_cast hln'
    have h3:(k.natAbs:Rat)<((2^52:Nat):Rat):=by
     have:k.natAbs<2^52:=by show k.natAbs<4503599627370496;omega
     exact_mod_cast this
    have h4:(2:Rat)^((lm:Int)+i)<2^(((ln+1:Nat):Int)+j+((52:Nat):Int)):=by
     rw [zp,zp,zp,z2x,z2x,z2x]
     have a1:=Rat.mul_le_mul_of_nonneg_right h1 (Rat.le_of_lt (z4s i))
     have hk':(0:Rat)<(k.natAbs:Rat):=by exact_mod_cast hk0
     have a2:=Rat.mul_lt_mul_of_pos_right (Rat.mul_lt_mul_of_pos_right h2 (z4s j)) hk'
     have hc0:(0:Rat)<((2^(ln+1):Nat):Rat)*2^j:=Rat.mul_pos (by exact_mod_cast Nat.two_pow_pos (ln+1)) (z4s j)
     have a3:=Rat.mul_lt_mul_of_pos_left h3 hc0
     grind
    have:=zp_lt h4
    omega
   obtain ⟨g,hg⟩:∃ g:Nat,j - i+(more:Int)=(g:Int):=⟨(j - i+(more:Int)).toNat,by omega⟩
   refine ⟨k.natAbs*2^g,?_,?_⟩
   ·rw [Nat.shiftLeft_eq]
    have h5:(m:Rat)*((2^more:Nat):Rat)=(n:Rat)*((k.natAbs:Rat)*((2^g:Nat):Rat)):=by
     have e1:(2:Rat)^(more:Int)=2^(g:Int)*2^(i - j):=by rw [← zp];congr 1;omega
     have e2:(2:Rat)^(i - j)*2^j=2^i:=by rw [← zp];congr 1;omega
     rw [← z2x,← z2x,e1]
     have hne:(2:Rat)^j≠0:=by have:=z4s j;grind
     have:(m:Rat)*(2^(g:Int)*2^(i - j))*2^j=(n:Rat)*((k.natAbs:Rat)*2^(g:Int))*2^j:=by
      have e3:(m:Rat)*(2^(g:Int)*2^(i - j))*2^j=(m:Rat)*2^i*2^(g:Int):=by rw [← e2];grind
      rw [e3,hV];grind
     grind
    exact_mod_cast h5
   ·push_cast
    have e1:(2:Rat)^(g:Int)*2^(i - j - (more:Int))=1:=by rw [← zp,show (g:Int)+(i - j - (more:Int))=0 by omega,Rat.zpow_zero]
    have e2:=z2x g
    push_cast at e2
    rw [← e2]
    grind
 obtain ⟨c,hc1,hc2⟩:=hdiv
 have hD:(m <<< more) / n=c:=by rw [hc1];exact Nat.mul_div_cancel_left _ (Nat.pos_of_ne_zero hn)
 have hR:(m <<< more)%n=0:=by rw [hc1];exact Nat.mul_mod_right _ _
 rw [hD,hR] at hq
 refine ⟨_,hq,z5x _ _ _ k (by omega) ?_⟩
 have hs0:k=0∨s=decide (k<0):=by
  by_cases hk0:k=0
  ·exact Or.inl hk0
  ·right
   have hne:y*k≠0:=Int.mul_ne_zero (by omega) hk0
   rw [z5n hv hne]
   congr 1
   exact propext ⟨fun h=>by
    rcases Int.lt_or_le k 0 with h'|h'
    ·exact h'
    ·have:=Int.mul_nonneg (Int.le_of_lt hy) h';omega,fun h=>Int.mul_neg_of_pos_of_neg hy h⟩
 unfold z2v
 have e5:(2:Rat)^(i - j - (more:Int) - 1)*2=2^(i - j - (more:Int)):=by
  have:=zp_sub (i - j - (more:Int)) 1
  simpa using this
 simp only [Bool.xor_false,bne_self_eq_false,Bool.toNat_false,Nat.add_zero]
 push_cast
 rcases hs0 with hk0|hs0
 ·subst hk0
  have hc0:(c:Rat)=0:=by
   have hp:=z4s (i - j - (more:Int))
   rcases Rat.mul_eq_zero.1 hc2 with h|h
   ·exact h
   ·grind
  rw [hc0]
  cases s <;> simp
 ·rw [hs0]
  by_cases hk0:k<0
  ·simp only [hk0,decide_true,if_true]
   have:(k:Rat)=((-(k.natAbs:Int):Int):Rat):=by congr 1;omega
   rw [this];push_cast;grind
  ·simp only [hk0,decide_false]
   have:(k:Rat)=(((k.natAbs:Int):Int):Rat):=by congr 1;omega
   rw [this];push_cast;grind
theorem part_near (D n q K d:Nat) (hn:0<n) (_hD:9007199254740992*n≤D) (hq:q=2*(D / n)+(D%n != 0).toNat)
  (hd:2≤d) (hqd:4503599627370496*2^d≤q) (h1:2*(K*2^d)≤2*q+2^d) (h2:2*q≤2*(K*2^d)+2^d) :
  4503599627370496*(K*2^d*n)≤4503599627370496*(2*D)+3*D∧4503599627370496*(2*D)≤4503599627370496*(K*2^d*n)+3*D∧q*n≤3*D∧D≤q*n:=by
 have hp:4≤2^d:=by
  have:2^2≤2^d:=Nat.pow_le_pow_right (by omega) hd
  simpa using this
 have e1:=Nat.div_add_mod D n
 have e2:=Nat.mod_lt D hn
 have hqn1:q*n+n ≥ 2*D:=by
  rw [hq,Nat.add_mul]
  have:2*(D / n)*n=2*(n*(D / n)):=by rw [Nat.mul_assoc,Nat.mul_comm (D / n) n]
  rw [this]
  by_cases h:D%n=0
  ·rw [h] at e1 ⊢;simp;omega
  ·have:(D%n != 0).toNat=1:=by simp [h]
   rw [this];omega
 have hqn2:q*n≤2*D+n:=by
  rw [hq,Nat.add_mul]
  have:2*(D / n)*n=2*(n*(D / n)):=by rw [Nat.mul_assoc,Nat.mul_comm (D / n) n]
  rw [this]
  by_cases h:D%n=0
  ·rw [h] at e1 ⊢;simp;omega
  ·have:(D%n != 0).toNat=1:=by simp [h]
   rw [this];omega
 have a1:2*(K*2^d)*n≤(2*q+2^d)*n:=Nat.mul_le_mul_right n h1
 have a2:2*q*n≤(2*(K*2^d)+2^d)*n:=Nat.mul_le_mul_right n h2
 have a3:4503599627370496*2^d*n≤q*n:=Nat.mul_le_mul_right n hqd
 have a4:4*n≤2^d*n:=Nat.mul_le_mul_right n hp
 rw [Nat.add_mul] at a1 a2
 rw [Nat.mul_assoc 2] at a1 a2
 rw [Nat.mul_assoc 2 q] at a1
 rw [Nat.mul_assoc 2 (K*2^d)] at a2
 rw [Nat.mul_assoc 4503599627370496] at a3
 generalize K*2^d*n=KN at *
 generalize q*n=QN at *
 generalize 2^d*n=PN at *
 omega
theorem FI.quo_floor {a b:Nat} {x y:Int} (ha:FI a x) (hb:FI b y) (hy:0<y) (hy2:y<2251799813685248) (hx:-2251799813685248<x∧x<2251799813685248) (hnd:¬ y ∣ x) :
  ∃ r,floatBits .quo .f64 a b=some r∧FI (double.write ((double.read r).integral .down)) (x / y)∧r<18446744073709551616∧∃ s m i,double.read r=.number s m i:=by
 obtain ⟨_,s,m,i,hr,hv⟩:=ha
 obtain ⟨_,t,n,j,hr',hv'⟩:=hb
 have hx0:x≠0:=by rintro rfl;exact hnd (Int.dvd_zero y)
 have hV:=z4g hv
 have hV':=z4g hv'
 have ht:t=false:=by rw [z5n hv' (by omega)];simp;omega
 have hs:=z5n hv hx0
 subst ht
 have hn:n≠0:=by
  rintro rfl
  rw [show ((0:Nat):Rat)=0 from rfl,Rat.zero_mul] at hV'
  have:y.natAbs=0:=by exact_mod_cast hV'.symm
  omega
 have hm:m≠0:=by
  rintro rfl
  rw [show ((0:Nat):Rat)=0 from rfl,Rat.zero_mul] at hV
  have:x.natAbs=0:=by exact_mod_cast hV.symm
  omega
 have hq:double.div a b=some (double.write (.number (s ^^ false) (2*((m <<< (54+n.log2 - m.log2)) / n)+((m <<< (54+n.log2 - m.log2))%n != 0).toNat) (i - j - ((54+n.log2 - m.log2:Nat):Int) - 1))):=by
  unfold Format.div
  rw [hr,hr']
  unfold Datum.quotient
  dsimp only
  rw [if_neg hn]
  rfl
 have hDlo:9007199254740992*n≤m <<< (54+n.log2 - m.log2):=by
  rw [Nat.shiftLeft_eq]
  have h1:=log2_le m hm
  have h2:=z8m n
  have h3:2^(54+n.log2)≤m*2^(54+n.log2 - m.log2):=by
   have:2^(54+n.log2)≤2^(m.log2+(54+n.log2 - m.log2)):=Nat.pow_le_pow_right (by omega) (by omega)
   rw [Nat.pow_add 2 m.log2] at this
   exact Nat.le_trans this (Nat.mul_le_mul_right _ h1)
  have h4:9007199254740992*2^(n.log2+1)=2^(54+n.log2):=by
   rw [show (9007199254740992:Nat)=2^53 from rfl,← Nat.pow_add];congr 1;omega
  omega
 generalize hmore:54+n.log2 - m.log2=more at *
 have hX:((m <<< more:Nat):Rat)*2^(i - (more:Int))=(x.natAbs:Rat):=by
  rw [Nat.shiftLeft_eq,← hV]
  have:=zp_sub i more
  push_cast at this ⊢
  rw [← this];grind
 generalize hDD:m <<< more=D at *
 generalize hqq:2*(D / n)+(D%n != 0).toNat=q at *
 have hnp:0<n:=Nat.pos_of_ne_zero hn
 have hq54:9007199254740992*2≤q:=by
  have:9007199254740992≤D / n:=(Nat.le_div_iff_mul_le hnp).2 hDlo
  omega
 have hq0:q≠0:=by omega
 have hLq:=log2_le q hq0
 have hLq':=z8m q
 have hL54:54≤q.log2:=(Nat.le_log2 hq0).2 (by show 18014398509481984≤q;omega)
 obtain ⟨d,hd⟩:∃ d:Nat,q.log2=52+d:=⟨q.log2 - 52,by omega⟩
 rw [hd] at hLq hLq'
 have h52:(2:Nat)^52=4503599627370496:=by decide
 have hpd:0<2^d:=Nat.two_pow_pos d
 have hqd:4503599627370496*2^d≤q:=by rw [← h52,← Nat.pow_add];exact hLq
 have hqd':q<9007199254740992*2^d:=by
  have:2^(52+d+1)=9007199254740992*2^d:=by
   rw [show (9007199254740992:Nat)=2^53 from rfl,← Nat.pow_add];congr 1;omega
  omega
 obtain ⟨c1,c2,c3,c4⟩:=cut_even_near (s ^^ false) q d (by omega)
 generalize hKK:Toward.even.cut (s ^^ false) q d=K at *
 have hKlo:4503599627370496≤K:=Nat.le_trans ((Nat.le_div_iff_mul_le hpd).2 hqd) c3
 have hKhi:K≤9007199254740992:=by
  have:q / 2^d<9007199254740992:=(Nat.div_lt_iff_lt_mul hpd).2 hqd'
  omega
 obtain ⟨n1,n2,n3,n4⟩:=part_near D n q K d hnp hDlo hqq.symm (by omega) hqd c1 c2
 have hXpos:(1:Rat)≤(x.natAbs:Rat):=by
  have:1≤x.natAbs:=by omega
  exact_mod_cast this
 have hXlt:(x.natAbs:Rat)<2251799813685248:=by
  have:x.natAbs<2251799813685248:=by omega
  exact_mod_cast this
 have hYpos:(1:Rat)≤(y.natAbs:Rat):=by
  have:1≤y.natAbs:=by omega
  exact_mod_cast this
 have hYlt:(y.natAbs:Rat)<2251799813685248:=by
  have:y.natAbs<2251799813685248:=by omega
  exact_mod_cast this
 generalize hplace:i - j - (more:Int) - 1=place at *
 have hw:(2:Rat)^place*2^j*2=2^(i - (more:Int)):=by
  have h2:(2:Rat)=2^((1:Nat):Int):=by decide
  rw [← zp]
  conv=>lhs;rw [show ((2:Rat)^(place+j)*2)=2^(place+j)*2^((1:Nat):Int) by rw [← h2]]
  rw [← zp];congr 1;omega
 have hpp:=z4s place
 have hpj:=z4s j
 generalize hW:(2:Rat)^(i - (more:Int))=W at *
 have hWp:0<W:=by rw [← hW];exact z4s _
 have hvq:(q:Rat)*2^place*(y.natAbs:Rat)*2=((q*n:Nat):Rat)*W:=by
  rw [← hV',← hw];push_cast;grind
 have hqlow:(1:Rat)≤(q:Rat)*2^place*(y.natAbs:Rat)*2:=by
  rw [hvq]
  have h4:(D:Rat)≤((q*n:Nat):Rat):=by exact_mod_cast n4
  have:=Rat.mul_le_mul_of_nonneg_right h4 (Rat.le_of_lt hWp)
  rw [hX] at this
  grind
 have hqhigh:(q:Rat)*2^place*(y.natAbs:Rat)*2≤3*2251799813685248:=by
  rw [hvq]
  have h4:((q*n:Nat):Rat)≤((3*D:Nat):Rat):=by exact_mod_cast n3
  have:=Rat.mul_le_mul_of_nonneg_right h4 (Rat.le_of_lt hWp)
  push_cast at this ⊢
  grind
 have hqp:(0:Rat)<(q:Rat)*2^place:=Rat.mul_pos (by exact_mod_cast Nat.pos_of_ne_zero hq0) hpp
 have helow:-54<place+q.log2:=by
  have h1:(q:Rat)<((2^(52+d+1):Nat):Rat):=by exact_mod_cast hLq'
  have h2:=Rat.mul_lt_mul_of_pos_right h1 hpp
  have h3:(2:Rat)^((-53:Int))<2^(((52+d+1:Nat):Int)+place):=by
   rw [zp,z2x]
   have h4:(2:Rat)^(-53:Int)=1 / 9007199254740992:=by decide +kernel
   rw [h4]
   have h5:(q:Rat)*2^place*(y.natAbs:Rat)≤(q:Rat)*2^place*2251799813685248:=Rat.mul_le_mul_of_nonneg_left (Rat.le_of_lt hYlt) (Rat.le_of_lt hqp)
   grind
  have:=zp_lt h3
  omega
 have hehigh:place+q.log2<52:=by
  have h1:((2^(52+d):Nat):Rat)≤(q:Rat):=by exact_mod_cast hLq
  have h2:=Rat.mul_le_mul_of_nonneg_right h1 (Rat.le_of_lt hpp)
  have h3:(2:Rat)^(((52+d:Nat):Int)+place)<2^((52:Nat):Int):=by
   rw [zp,z2x,z2x]
   have h5:(q:Rat)*2^place*1≤(q:Rat)*2^place*(y.natAbs:Rat):=Rat.mul_le_mul_of_nonneg_left hYpos (Rat.le_of_lt hqp)
   have h6:((2^52:Nat):Rat)=4503599627370496:=by decide
   rw [h6]
   grind
  have:=zp_lt h3
  omega
 have hcut:Toward.even.cut (s ^^ false) (q <<< (place - (place+q.log2 - 52)).toNat) ((place+q.log2 - 52) - place).toNat=K:=by
  have e1:(place - (place+q.log2 - 52)).toNat=0:=by omega
  have e2:((place+q.log2 - 52) - place).toNat=d:=by omega
  rw [e1,e2,Nat.shiftLeft_zero,hKK]
 obtain ⟨m',i',hr2,hmi⟩:=near_gen (s ^^ false) q place (place+q.log2 - 52) K hq0 rfl (by omega) (by omega) hcut hKlo hKhi
 have hworth:(m':Rat)*2^i'=(K:Rat)*((2^d:Nat):Rat)*2^place:=by
  have e3:place+(q.log2:Int) - 52=(d:Int)+place:=by omega
  rcases hmi with ⟨rfl,hi'⟩|⟨rfl,rfl,hi'⟩
  ·rw [hi',e3,zp,z2x];grind
  ·have h2:(2:Rat)=2^((1:Nat):Int):=by decide
   rw [hi',e3,zp,zp,z2x]
   have:(2:Rat)^(1:Int)=2:=by decide
   rw [this]
   have h7:((4503599627370496:Nat):Rat)*2=((9007199254740992:Nat):Rat):=by push_cast;grind
   rw [← h7];grind
 have hile:i'≤0:=by
  rcases hmi with ⟨_,hi'⟩|⟨_,_,hi'⟩ <;> omega
 have hN:=worth_nat m' i'
 rw [hworth] at hN
 generalize hA:m' <<< i'.toNat=A at *
 generalize hT:(2:Nat)^(-i').toNat=T at *
 have hTp:0<T:=by rw [← hT];exact Nat.two_pow_pos _
 have hTr:(0:Rat)<(T:Rat):=by exact_mod_cast hTp
 have hAY:(A:Rat)*(y.natAbs:Rat)*2=((K*2^d*n:Nat):Rat)*W*(T:Rat):=by
  rw [← hN,← hV',← hw];push_cast;grind
 have hE:(3:Rat)*(D:Rat)*W≤3*2251799813685247:=by
  have:(x.natAbs:Rat)≤2251799813685247:=by
   have:x.natAbs≤2251799813685247:=by omega
   exact_mod_cast this
  rw [Rat.mul_assoc,hX];grind
 have hXD:(x.natAbs:Rat)*2=((2*D:Nat):Rat)*W:=by rw [← hX];push_cast;grind
 have u1:(A:Rat)*(y.natAbs:Rat)<((x.natAbs:Rat)+1)*(T:Rat):=by
  have h1:((4503599627370496*(K*2^d*n):Nat):Rat)≤((4503599627370496*(2*D)+3*D:Nat):Rat):=by exact_mod_cast n1
  have h2:=Rat.mul_le_mul_of_nonneg_right h1 (Rat.le_of_lt hWp)
  have h3:((4503599627370496*(K*2^d*n):Nat):Rat)*W<(4503599627370496*((x.natAbs:Rat)*2+2)):=by
   have e:((4503599627370496*(2*D)+3*D:Nat):Rat)*W=4503599627370496*(((2*D:Nat):Rat)*W)+3*(D:Rat)*W:=by push_cast;grind
   rw [e,← hXD] at h2
   grind
  have h4:=Rat.mul_lt_mul_of_pos_right h3 hTr
  have e2:((4503599627370496*(K*2^d*n):Nat):Rat)*W*(T:Rat)=4503599627370496*((A:Rat)*(y.natAbs:Rat)*2):=by rw [hAY];push_cast;grind
  rw [e2] at h4
  grind
 have u2:((x.natAbs:Rat) - 1)*(T:Rat)<(A:Rat)*(y.natAbs:Rat):=by
  have h1:((4503599627370496*(2*D):Nat):Rat)≤((4503599627370496*(K*2^d*n)+3*D:Nat):Rat):=by exact_mod_cast n2
  have h2:=Rat.mul_le_mul_of_nonneg_right h1 (Rat.le_of_lt hWp)
  have h3:(4503599627370496*((x.natAbs:Rat)*2 - 2))<((4503599627370496*(K*2^d*n):Nat):Rat)*W:=by
   have e:((4503599627370496*(K*2^d*n)+3*D:Nat):Rat)*W=((4503599627370496*(K*2^d*n):Nat):Rat)*W+3*(D:Rat)*W:=by push_cast;grind
   have e3:((4503599627370496*(2*D):Nat):Rat)*W=4503599627370496*(((2*D:Nat):Rat)*W):=by push_cast;grind
   rw [e,e3,← hXD] at h2
   grind
  have h4:=Rat.mul_lt_mul_of_pos_right h3 hTr
  have e2:((4503599627370496*(K*2^d*n):Nat):Rat)*W*(T:Rat)=4503599627370496*((A:Rat)*(y.natAbs:Rat)*2):=by rw [hAY];push_cast;grind
  rw [e2] at h4
  grind
 have v1:A*y.natAbs<(x.natAbs+1)*T:=by
  have:((A*y.natAbs:Nat):Rat)<(((x.natAbs+1)*T:Nat):Rat):=by push_cast;exact u1
  exact_mod_cast this
 have v2:x.natAbs*T<A*y.natAbs+T:=by
  have:((x.natAbs*T:Nat):Rat)<((A*y.natAbs+T:Nat):Rat):=by push_cast;grind
  exact_mod_cast this
 have hYp:0<y.natAbs:=by omega
 have hmod:0<x.natAbs%y.natAbs:=by
  rcases Nat.eq_zero_or_pos (x.natAbs%y.natAbs) with h|h
  ·exact absurd (Int.natAbs_dvd_natAbs.1 (Nat.dvd_of_mod_eq_zero h)) hnd
  ·exact h
 have hmodlt:=Nat.mod_lt x.natAbs hYp
 have hdm:=Nat.div_add_mod x.natAbs y.natAbs
 generalize hX':x.natAbs=X at *
 generalize hY':y.natAbs=Y at *
 generalize hk:X / Y=k at *
 generalize hρ:X%Y=ρ at *
 have w1:A<(k+1)*T:=by
  refine Nat.lt_of_mul_lt_mul_right (a:=Y) ?_
  have:(k+1)*T*Y=(Y*k+Y)*T:=by grind
  rw [this]
  have:(X+1)*T≤(Y*k+Y)*T:=Nat.mul_le_mul_right T (by omega)
  omega
 have w2:k*T<A:=by
  refine Nat.lt_of_mul_lt_mul_right (a:=Y) ?_
  have e:k*T*Y=(Y*k)*T:=by grind
  rw [e]
  have:(Y*k+1)*T≤X*T:=Nat.mul_le_mul_right T (by omega)
  rw [Nat.add_mul] at this
  omega
 have hAd:A / T=k:=by
  rw [Nat.div_eq_iff hTp]
  constructor
  ·omega
  ·rw [Nat.add_mul] at w1;omega
 have hAm:A%T≠0:=by
  intro h
  have:=Nat.div_add_mod A T
  rw [hAd,h,Nat.mul_comm] at this
  omega
 refine ⟨_,hq,?_,double.write_lt _,_,_,_,hr2⟩
 show FI (double.write ((double.read (double.nearest (s ^^ false) q place)).integral .down)) (x / y)
 rw [hr2]
 show FI (double.write (.number (s ^^ false) (Toward.down.cut (s ^^ false) (m' <<< i'.toNat) (-i').toNat) 0)) (x / y)
 rw [cut_down,hA,hT,hAd,Bool.xor_false]
 have hAm':(A%T != 0)=true:=by simp [hAm]
 rw [hAm',Bool.and_true]
 have hkX:k≤X:=by rw [← hk];exact Nat.div_le_self _ _
 have hxy:x / y=if x<0 then -((k:Int)+1) else (k:Int):=by
  have hYy:y=(Y:Int):=by omega
  split
  ·rename_i hneg
   have hXx:x=-(X:Int):=by omega
   rw [hXx,hYy]
   rw [Int.ediv_eq_iff_of_pos (by omega)]
   have h1:(X:Int)=(Y:Int)*(k:Int)+(ρ:Int):=by exact_mod_cast hdm.symm
   constructor
   ·have:-((k:Int)+1)*(Y:Int)=-((Y:Int)*(k:Int)) - Y:=by grind
    rw [this];omega
   ·have:-((k:Int)+1)*(Y:Int)+(Y:Int)=-((Y:Int)*(k:Int)):=by grind
    rw [this];omega
  ·have hXx:x=(X:Int):=by omega
   rw [hXx,hYy,← hk];rfl
 refine z5x s _ 0 (x / y) ?_ ?_
 ·rw [hxy];split <;> omega
 ·unfold z2v
  rw [Rat.zpow_zero,Rat.mul_one,hxy,hs]
  by_cases hneg:x<0
  ·simp only [hneg,decide_true,if_true,Bool.toNat_true]
   push_cast;rfl
  ·simp only [hneg,decide_false,Bool.toNat_false,if_false,Nat.add_zero]
   push_cast;rfl
theorem FI.part {a b:Nat} {x y:Int} (ha:FI a x) (hb:FI b y) (hy:0<y) (hy2:y<2251799813685248) (hx:-2251799813685248<x∧x<2251799813685248) :
  ∃ r,floatBits .quo .f64 a b=some r∧FI (double.write ((double.read r).integral .down)) (x / y)∧∃ s m i,double.read r=.number s m i:=by
 by_cases hd:y ∣ x
 ·obtain ⟨k,rfl⟩:=hd
  have hk:-4503599627370496<k∧k<4503599627370496:=by
   constructor
   ·rcases Int.lt_or_le (-4503599627370496) k with h|h
    ·exact h
    ·have:y*k≤1*k:=Int.mul_le_mul_of_nonpos_right (by omega) (by omega)
     omega
   ·rcases Int.lt_or_le k 4503599627370496 with h|h
    ·exact h
    ·have:1*k≤y*k:=Int.mul_le_mul_of_nonneg_right (by omega) (by omega)
     omega
  obtain ⟨r,h1,h2⟩:=ha.quo_whole hb hy hk
  rw [Int.mul_ediv_cancel_left k (by omega)]
  refine ⟨r,h1,h2.floor (by omega),?_⟩
  obtain ⟨_,s,m,i,hr,_⟩:=h2
  exact ⟨s,m,i,hr⟩
 ·obtain ⟨r,h1,h2,_,h3⟩:=ha.quo_floor hb hy hy2 hx hd
  exact ⟨r,h1,h2,h3⟩
end Go.Proofs.YtljkonkfeiojnaaGreatDoor.Ga
