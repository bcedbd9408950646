/-
  What expressions come to, as plain data.
  The contracts of eval.Find and eval.columnValue.
  A scope that comes in.
  The contracts of eval.columnValue, eval.operands, eval.apart and eval.stepped.
  The contract of eval.stepped.
  The contract of eval.stepped, whole.
  A stack of values of one's own.
  The document's Find answers as the program's.
  An append out of a whole slice at a step of a region that draws, and where the new slice lies.
-/
import Derived.Test.YtibbenhplmmmiaaGreatDoorMDQFun2
import Derived.Test.YtibbenhplmmmiaaGreatDoorMEQRF0
import Derived.Test.YtibbenhplmmmiaaGreatDoorMyXROp
import Derived.SliceStrings
import Derived.Deep.AppendLies
import Derived.Test.YtibbenhplmmmiaaGreatDoorMaLJumps
set_option maxHeartbeats 4000000
set_option maxRecDepth 100000
namespace Go.Proofs.YtibbenhplmmmiaaGreatDoor
def z3d (t n:List UInt8):List (List UInt8 × List UInt8)→Nat→Nat→Nat→Nat × Nat
 | [],_,p,c=>(p,c)
 | x::r,i,p,c=>if x.2=n∧(t=[]∨x.1=t) then z3d t n r (i+1) i (c+1) else z3d t n r (i+1) p c
def z4z (ts ns:List (List UInt8)) (t n:List UInt8):Nat × Int :=
 if ts.length=ns.length then (if (z3d t n (ts.zip ns) 0 0 0).2=1 then ((z3d t n (ts.zip ns) 0 0 0).1,0) else (0,34)) else (0,1)
theorem findS_at (t n:List UInt8):∀ l i p c,((z3d t n l i p c).1=p∧(z3d t n l i p c).2=c)∨(c<(z3d t n l i p c).2∧∃ j,∃ h:j<l.length,(z3d t n l i p c).1=i+j∧(l[j]).2=n):=by
 intro l
 induction l with
 | nil=>intro i p c;exact .inl ⟨rfl,rfl⟩
 | cons x r ih =>
  intro i p c
  unfold z3d
  split
  ·rename_i hx
   rcases ih (i+1) i (c+1) with ⟨h1,h2⟩|⟨h1,j,hj,h2,h3⟩
   ·exact .inr ⟨by omega,0,by simp,by omega,hx.1⟩
   ·exact .inr ⟨by omega,j+1,by simp;omega,by omega,by simpa using h3⟩
  ·rcases ih (i+1) p c with h|⟨h1,j,hj,h2,h3⟩
   ·exact .inl h
   ·exact .inr ⟨h1,j+1,by simp;omega,by omega,by simpa using h3⟩
theorem findR_at {ts ns:List (List UInt8)} {t n:List UInt8} (h:(z4z ts ns t n).2=0):∃ hl:(z4z ts ns t n).1<ns.length,ns[(z4z ts ns t n).1]=n:=by
 unfold z4z at h ⊢
 by_cases h1:ts.length=ns.length
 ·simp only [if_pos h1] at h ⊢
  by_cases h2:(z3d t n (ts.zip ns) 0 0 0).2=1
  ·simp only [if_pos h2] at h ⊢
   rcases findS_at t n (ts.zip ns) 0 0 0 with ⟨_,h3⟩|⟨_,j,hj,h3,h4⟩
   ·omega
   ·have hz:(ts.zip ns).length=ns.length:=by rw [List.length_zip];omega
    have e:(z3d t n (ts.zip ns) 0 0 0).1=j:=by omega
    refine ⟨by omega,?_⟩
    have h5:((ts.zip ns)[j]).2=ns[j]'(by omega):=by rw [List.getElem_zip]
    rw [h5] at h4
    simp only [e]
    exact h4
  ·rw [if_neg h2] at h;simp at h
 ·rw [if_neg h1] at h;simp at h
def colR (x:Nd) (ts ns:List (List UInt8)) (row:List Va):Va × Int :=
 if (z4z ts ns x.t x.n).2=0 then (row.getD (z4z ts ns x.t x.n).1 nul,0) else (nul,(z4z ts ns x.t x.n).2)
def stpR (x:Nd) (of:List Va) (ts ns:List (List UInt8)) (row:List Va):Va × Int :=
 if x.o=1 then (x.v,0) else if x.o=2 then colR x ts ns row else if x.o=19 then funR x.n of else if of.length=1 then unR x.o (of.getD 0 nul) else binR x.o (of.getD 0 nul) (of.getD 1 nul)
def evL (ts ns:List (List UInt8)) (row:List Va):List Nd→List Va→Va × Int
 | [],st=>(st.headD nul,0)
 | x::l,st=>if (stpR x (st.drop (st.length - (opsN x).toNat)) ts ns row).2=0 then evL ts ns row l (st.take (st.length - (opsN x).toNat)++[(stpR x (st.drop (st.length - (opsN x).toNat)) ts ns row).1]) else (nul,(stpR x (st.drop (st.length - (opsN x).toNat)) ts ns row).2)
def evR (l:List Nd) (ts ns:List (List UInt8)) (row:List Va):Va × Int :=
 if 0<depN mayN l∧ts.length=row.length∧ns.length=row.length∧row.all vr=true then evL ts ns row l [] else (nul,1)
def gv (v:Va):Prop:=vr v=true∧vin v
theorem z3m:gv nul:=⟨vr_nul,⟨by decide,by decide⟩,⟨by decide,by decide⟩⟩
theorem gv_of {v:Va} (h:vr v=true) (hn:v.k=1∨v.k=2→-9223372036854775808≤v.n∧v.n≤9223372036854775807):gv v:=by
 have hok:=(z2f v).1 h
 unfold vok at hok
 refine ⟨h,⟨?_,?_⟩,⟨?_,?_⟩⟩
 all_goals rcases hok with h|h|h|h|h|h
 all_goals first|omega|(have:=hn (by omega);omega)
theorem nzI (z:Int):-9223372036854775808≤nz z∧nz z≤9223372036854775807:=by
 unfold nz
 split
 ·rename_i h;exact (z4k z).1 h
 ·omega
def numI (r:Va × Int):Prop:=r.1.k=1∨r.1.k=2→-9223372036854775808≤r.1.n∧r.1.n≤9223372036854775807
theorem z3a (e:Int):numI (nul,e):=fun h=>by simp [nul] at h
theorem z2v (z e:Int) (h:-9223372036854775808≤z∧z≤9223372036854775807):numI (z0v z e):=by
 unfold z0v
 split
 ·exact fun _=>h
 ·exact z3a e
theorem numI_dec (z s:Int):numI (decR z s):=by
 unfold decR z2a
 split
 ·exact fun _=>nzI z
 ·exact z3a _
theorem numI_pt (x y:Int) (e:Int):numI (vP x y,e):=fun h=>by simp [vP] at h
theorem numI_bool (b:Bool) (e:Int):numI (vB b,e):=fun h=>by simp [vB] at h
theorem numI_of (t e:Int):numI (vO t,e):=fun h=>by
 unfold vO at h
 split at h
 ·simp at h
 ·simp [nul] at h
theorem z7t (op c:Int):numI (cmpR op c):=by
 unfold cmpR
 repeat' split
 all_goals first|exact numI_bool _ _|exact z3a _
theorem tdivI (a b:Int) (h0:-9223372036854775808≤a) (h1:a≤9223372036854775807) (hb:b≠0) (hb1:b≠-1):-9223372036854775808≤a.tdiv b∧a.tdiv b≤9223372036854775807:=by
 have h:(a.tdiv b).natAbs=a.natAbs / b.natAbs:=Int.natAbs_tdiv a b
 have h2:a.natAbs / b.natAbs≤a.natAbs:=Nat.div_le_self _ _
 by_cases hm:a=-9223372036854775808
 ·subst hm
  by_cases hb2:b=1
  ·subst hb2;simp
  ·have h3:2≤b.natAbs:=by omega
   have h4:(-9223372036854775808:Int).natAbs / b.natAbs≤(-9223372036854775808:Int).natAbs / 2:=Nat.div_le_div_left h3 (by decide)
   have h5:(-9223372036854775808:Int).natAbs / 2=4611686018427387904:=by decide
   omega
 ·omega
theorem numI_ints (op a b:Int) (ha:-9223372036854775808≤a∧a≤9223372036854775807):numI (intsR op a b):=by
 unfold intsR
 split
 ·exact z2v _ _ (nzI _)
 split
 ·exact z2v _ _ (nzI _)
 split
 ·exact z2v _ _ (nzI _)
 split
 ·unfold quoR
  split
  ·exact z2v _ _ (by simp)
  split
  ·exact z2v _ _ (nzI _)
  ·exact z2v _ _ (tdivI a b ha.1 ha.2 (by assumption) (by assumption))
 split
 ·unfold remR
  split
  ·exact z2v _ _ (by simp)
  ·refine z2v _ _ ?_
   have h:=Int.natAbs_tmod a b
   have h2:a.natAbs%b.natAbs≤a.natAbs:=Nat.mod_le _ _
   have h3:a.tmod b=a - b*a.tdiv b:=by have:=Int.mul_tdiv_add_tmod a b;omega
   have h4:0≤a→0≤a.tmod b:=fun h=>Int.tmod_nonneg b h
   show -9223372036854775808≤a.tmod b∧a.tmod b≤9223372036854775807
   have h5:a.natAbs≤9223372036854775808:=by omega
   rcases Int.natAbs_eq (a.tmod b) with h6|h6
   ·by_cases h0:0≤a
    ·omega
    ·by_cases hm:a=-9223372036854775808
     ·have h7:a.tmod b≤0:=by
       have:=Int.tmod_nonneg b (a:=-a) (by omega)
       rw [Int.neg_tmod] at this
       omega
      omega
     ·omega
   ·omega
 ·exact z7t _ _
theorem numI_nums (op:Int) (a b:Va):numI (z9s op a b):=by
 unfold z9s
 repeat' split
 all_goals first|exact numI_dec _ _|exact z7t _ _|exact z3a _
theorem numI_pts (op:Int) (a b:Va):numI (ptsR op a b):=by
 unfold ptsR ptR z0u
 repeat' split
 all_goals first|exact numI_pt _ _ _|exact z7t _ _|exact z3a _
theorem numI_bin (op:Int) (a b:Va) (ia:vin a):numI (binR op a b):=by
 unfold binR
 split
 ·exact z3a _
 split
 ·unfold truR
  repeat' split
  all_goals first|exact numI_of _ _|exact z3a _
 split
 ·exact z3a _
 split
 ·exact numI_ints _ _ _ ia.1
 split
 ·exact numI_nums _ _ _
 split
 ·exact numI_pts _ _ _
 split
 ·unfold txtR
  repeat' split
  all_goals first|exact z3a _|exact z7t _ _|exact fun h=>by simp [vT] at h
 split
 ·exact z7t _ _
 ·exact z3a _
theorem numI_neg (a:Va):numI (negR a):=by
 unfold negR
 repeat' split
 all_goals first|exact z3a _|exact numI_dec _ _|exact numI_pt _ _ _|exact z2v _ _ (nzI _)
theorem numI_un (op:Int) (a:Va):numI (unR op a):=by
 unfold unR notR
 repeat' split
 all_goals first|exact z3a _|exact numI_of _ _|exact numI_bool _ _|exact numI_neg _
theorem gv_bin (op:Int) (a b:Va) (ia:vin a):gv (binR op a b).1:=gv_of (ok_bin op a b).1 (numI_bin op a b ia)
theorem gv_un (op:Int) (a:Va):gv (unR op a).1:=gv_of (ok_un op a).1 (numI_un op a)
theorem gv_firstK (l:List Va) (h:∀ x∈l,gv x):gv (z4t l):=by
 induction l with
 | nil=>exact z3m
 | cons x l ih =>
  unfold z4t
  split
  ·exact ih fun y hy=>h y (by simp [hy])
  ·exact h x (by simp)
theorem gv_int (z:Int) (h:-9223372036854775808≤z∧z≤9223372036854775807):gv (vI z):=gv_of (ok_int z).1 fun _=>h
theorem nrm_in (x y:Int) (hx:-1048576≤x∧x≤1048576) (hy:-1048576≤y∧y≤1048576):-9223372036854775808≤Ga.nrm x y∧Ga.nrm x y≤9223372036854775807:=by
 unfold Ga.nrm
 split
 ·have sq:∀ z:Int,-1048576≤z∧z≤1048576→0≤z*z∧z*z≤1099511627776:=by
   intro z hz
   have e:z*z=((z.natAbs*z.natAbs:Nat):Int):=by rw [Int.natCast_mul,Int.natAbs_mul_self']
   have h1:z.natAbs≤1048576:=by omega
   have h2:z.natAbs*z.natAbs≤1048576*1048576:=Nat.mul_le_mul h1 h1
   rw [e]
   omega
  have h1:=sq x hx
  have h2:=sq y hy
  omega
 ·omega
theorem gv_fun (nm:List UInt8) (l:List Va) (h:∀ x∈l,gv x):gv (funR nm l).1:=by
 unfold funR
 split
 ·exact z3m
 split
 ·exact z3m
 split
 ·exact gv_firstK l h
 split
 ·exact z3m
 match l,h with
 | [],_=>exact z3m
 | [a],h =>
  have ga:=h a (by simp)
  have hok:=(z2f a).1 ga.1
  unfold vok at hok
  show gv (cal1 nm a).1
  unfold cal1
  split
  ·split
   ·exact gv_int _ (by omega)
   ·exact z3m
  split
  ·split
   ·unfold absR
    split
    ·rename_i hn _
     have:=ok_un 3 a
     have e:unR 3 a=negR a:=by unfold unR;rw [if_neg (by simp [ga.1]),if_neg (by decide),if_neg (by decide)]
     rw [e] at this
     exact gv_of this.1 (numI_neg a)
    ·exact ga
   ·exact z3m
  split
  ·split
   ·exact gv_int _ (nrm_in _ _ (by omega) (by omega))
   ·exact z3m
  split
  ·split
   ·exact gv_int _ (by omega)
   ·exact z3m
  ·split
   ·exact gv_int _ (by omega)
   ·exact z3m
 | [a,b],h =>
  show gv (cal2 nm a b).1
  unfold cal2
  split
  ·split
   ·unfold ptAtR
    split
    ·rename_i h2
     exact gv_of (ok_pt _ _ h2).1 (numI_pt _ _ 0)
    ·exact z3m
   ·exact z3m
  ·split
   ·unfold rndR z2a
    split
    ·split
     ·rename_i h1 h2 h3
      obtain ⟨_,hr,_,_,hu,hs⟩:=rescale_ok _ _ _ h3
      have hr':=(z0w _).1 hr
      refine gv_of (z8x ?_) (fun _=>?_)
      ·rw [hs];simp [vok,vD];omega
      ·show _≤rU _ _ _∧rU _ _ _≤_
       unfold rU
       split
       ·exact nzI _
       ·omega
     ·exact z3m
    ·exact z3m
   ·exact z3m
 | _::_::_::_,_=>exact z3m
theorem z5s {st:List Va} {n:Nat} (h:∀ x∈st,gv x):∀ x∈st.drop n,gv x:=fun x hx=>h x (List.mem_of_mem_drop hx)
theorem getD_gv {l:List Va} (h:∀ x∈l,gv x) (i:Nat):gv (l.getD i nul):=by
 rw [List.getD_eq_getElem?_getD]
 cases hi:l[i]? with
 | none=>exact z3m
 | some v=>exact h v (List.mem_of_getElem? hi)
theorem gv_stp (x:Nd) (of:List Va) (ts ns:List (List UInt8)) (row:List Va) (h1:x.o=1→gv x.v) (h2:∀ v∈of,gv v) (h3:∀ v∈row,gv v):gv (stpR x of ts ns row).1:=by
 unfold stpR
 split
 ·exact h1 (by assumption)
 split
 ·unfold colR
  split
  ·exact getD_gv h3 _
  ·exact z3m
 split
 ·exact gv_fun _ _ h2
 split
 ·exact gv_un _ _
 ·exact gv_bin _ _ _ (getD_gv h2 0).2
theorem gv_take {st:List Va} {n:Nat} {v:Va} (h:∀ x∈st,gv x) (hv:gv v):∀ x∈st.take n++[v],gv x:=by
 intro x hx
 rcases List.mem_append.1 hx with hx|hx
 ·exact h x (List.mem_of_mem_take hx)
 ·obtain rfl:x=v:=by simpa using hx
  exact hv
end Go.Proofs.YtibbenhplmmmiaaGreatDoor

namespace Go.Proofs.YtibbenhplmmmiaaGreatDoor
open Go.RowKit Go.Shelf
attribute [local go_sem] z0e z0b z0c z0f z0m z0k z0h z0d z0g
def Sl (w:World) (ao:Option Addr) (l:List (List UInt8)):Prop :=
 0<l.length→∃ b off,ao=some ⟨b,off,none⟩∧∀ i (h:i<l.length),w.cell? ⟨b,off+i,none⟩=some (.string ⟨l[i].toArray⟩)
theorem Sl.later {w w':World} {ao:Option Addr} {l:List (List UInt8)} (h:Sl w ao l) (hb:Below w.heap.size w w'):Sl w' ao l:=by
 intro hp
 obtain ⟨b,off,e,hc⟩:=h hp
 exact ⟨b,off,e,fun i hi=>(hb.cell (p:=⟨b,off+i,none⟩) (World.block_lt_of_cell? w _ (hc i hi))).trans (hc i hi)⟩
abbrev scv (ta na:Option Addr) (n m tc nc:Nat):Value:=.agg #[.slice ta n tc,.slice na m nc]
theorem find_any (ta na:Option Addr) (tc nc:Nat) (ts ns:List (List UInt8)) (t n:List UInt8) (w:World) (ht:Sl w ta ts) (hn:Sl w na ns) (hl:ns.length≤140737488351232) :
  Calls Tryz.prog 20 #[scv ta na ts.length ns.length tc nc,.string ⟨t.toArray⟩,.string ⟨n.toArray⟩] w fun e w'=>e=.returned (.tuple #[.int .i64 ((z4z ts ns t n).1:Int),.int .i64 (z4z ts ns t n).2])∧Below w.heap.size w w':=by
 unfold z4z
 by_cases hne:ts.length=ns.length
 case neg =>
  rw [if_neg hne]
  clear ht hn hl
  generalize ts.length=p at *
  generalize ns.length=q at *
  have h1:¬ (p:Int)=(q:Int):=by omega
  go_enter Tryz.func20,Tryz.ntmps20
  go_wp2
  refine bodyPost_ret_by (v:=.tuple #[.int .i64 0,.int .i64 1]) ?_ rfl ⟨rfl,(Below.refl _ _).alloc (Nat.le_refl _) _⟩
  simp [results,Tryz.results20,go_sem]
 rw [if_pos hne]
 obtain ⟨R,hR⟩:∃ R,R=z3d t n (ts.zip ns) 0 0 0:=⟨_,rfl⟩
 rw [← hR]
 have HR:Hid (z3d t n ((ts.zip ns).drop 0) 0 0 0=R):=hR.symm
 clear hR
 obtain ⟨m,hm⟩:∃ m,ns.length=m:=⟨_,rfl⟩
 have HM:Hid (ns.length=m):=hm
 have HT:Hid (ts.length=m):=by show _=_;omega
 rw [show ts.length=m from HT.out,hm]
 rw [hm] at hl
 have BX:Cbox (w.alloc (.cells #[.slice ta m tc,.slice na m nc] 50)) w.heap.size #[.slice ta m tc,.slice na m nc] 50:=Cbox.new w _ _
 have A1:Below w.heap.size w (w.alloc (.cells #[.slice ta m tc,.slice na m nc] 50)):=(Below.refl _ _).alloc (Nat.le_refl _) _
 clear hm hne
 obtain ⟨TB,hTB⟩:∃ TB:ByteArray,TB=⟨t.toArray⟩:=⟨_,rfl⟩
 obtain ⟨NB,hNB⟩:∃ NB:ByteArray,NB=⟨n.toArray⟩:=⟨_,rfl⟩
 have HTB:Hid (TB.toList=t):=by show _=_;rw [hTB,ByteArray.toList_eq]
 have HNB:Hid (NB.toList=n):=by show _=_;rw [hNB,ByteArray.toList_eq]
 rw [← hTB,← hNB]
 clear hTB hNB
 go_enter Tryz.func20,Tryz.ntmps20
 go_wp2
 go_loopw [8,9,22] (fun r8 r9 r22 wr=>∃ k p c:Nat,r8=.int .i64 (p:Int)∧r9=.int .i64 (c:Int)∧r22=.int .i64 (k:Int)∧k≤m∧c≤k∧wr=(w.alloc (.cells #[.slice ta m tc,.slice na m nc] 50))∧Hid (z3d t n ((ts.zip ns).drop k) k p c=R)) (fun _ _ r _=>m - (intOf r).toNat)
 case atStart=>exact ⟨0,0,0,rfl,rfl,rfl,Nat.zero_le _,Nat.zero_le _,rfl,HR⟩
 case round =>
  obtain ⟨k,p,c,rfl,rfl,rfl,hk,hck,rfl,hH⟩:=hrel
  have z0:=BX.at 0
  have z1:=BX.at 1
  have zl:=BX.lt
  by_cases hlt:k<m
  ·have hlt':(k:Int)<(m:Int):=by omega
   have k0:(0:Int)≤(k:Int):=by omega
   have hkn:k<ns.length:=by rw [HM.out];exact hlt
   have hkt:k<ts.length:=by rw [HT.out];exact hlt
   obtain ⟨nb,noff,rfl,hcn⟩:=(hn.later A1) (by omega)
   obtain ⟨tb,toff,rfl,hct⟩:=(ht.later A1) (by omega)
   have cn:=hcn k hkn
   have ct:=hct k hkt
   have gn:=World.block_lt_of_cell? _ _ cn
   have gt:=World.block_lt_of_cell? _ _ ct
   have hzl:k<(ts.zip ns).length:=by rw [List.length_zip];omega
   have hdr:(ts.zip ns).drop k=(ts[k],ns[k])::(ts.zip ns).drop (k+1):=by rw [List.drop_eq_getElem_cons hzl,List.getElem_zip]
   have hst:=hH.out
   rw [hdr] at hst
   unfold z3d at hst
   obtain ⟨SN,hSN⟩:∃ SN:ByteArray,SN=⟨ns[k].toArray⟩:=⟨_,rfl⟩
   obtain ⟨ST,hST⟩:∃ ST:ByteArray,ST=⟨ts[k].toArray⟩:=⟨_,rfl⟩
   have e1:SN.toList=ns[k]:=by rw [hSN,ByteArray.toList_eq]
   have e2:ST.toList=ts[k]:=by rw [hST,ByteArray.toList_eq]
   rw [← hSN] at cn
   rw [← hST] at ct
   rw [← e1,← e2,← HNB.out,← HTB.out] at hst
   simp only at gn gt
   have HS:Hid ((if SN.toList=NB.toList∧(TB.toList=[]∨ST.toList=TB.toList) then z3d TB.toList NB.toList ((ts.zip ns).drop (k+1)) (k+1) k (c+1) else z3d TB.toList NB.toList ((ts.zip ns).drop (k+1)) (k+1) p c)=R):=hst
   have HB:Hid (Below w.heap.size w (w.alloc (.cells #[.slice (some ⟨tb,toff,none⟩) m tc,.slice (some ⟨nb,noff,none⟩) m nc] 50))):=A1
   clear hcn hct hdr hst hH hSN hST e1 e2 HR A1 BX hn ht hzl
   by_cases q1:SN.toList=NB.toList
   ·have q1':(SN.toList==NB.toList)=true:=by rw [beq_iff_eq];exact q1
    by_cases q2:TB.toList=[]
    ·have q2':TB.toList.isEmpty=true:=by rw [List.isEmpty_iff];exact q2
     have HF:Hid (z3d t n ((ts.zip ns).drop (k+1)) (k+1) k (c+1)=R):=by have:=HS.out;rw [if_pos ⟨q1,.inl q2⟩,HTB.out,HNB.out] at this;exact this
     clear q1 q2 HS
     go_wp2
     exact ⟨⟨k+1,k,c+1,rfl,by simp,by simp,by omega,by omega,(by first|trivial|rfl),HF⟩,by simp [intOf];omega⟩
    ·have q2':TB.toList.isEmpty=false:=by rw [← Bool.not_eq_true,List.isEmpty_iff];exact q2
     by_cases q3:ST.toList=TB.toList
     ·have q3':(ST.toList==TB.toList)=true:=by rw [beq_iff_eq];exact q3
      have HF:Hid (z3d t n ((ts.zip ns).drop (k+1)) (k+1) k (c+1)=R):=by have:=HS.out;rw [if_pos ⟨q1,.inr q3⟩,HTB.out,HNB.out] at this;exact this
      clear q1 q2 q3 HS
      go_wp2
      exact ⟨⟨k+1,k,c+1,rfl,by simp,by simp,by omega,by omega,(by first|trivial|rfl),HF⟩,by simp [intOf];omega⟩
     ·have q3':(ST.toList==TB.toList)=false:=by rw [beq_eq_false_iff_ne];exact q3
      have HF:Hid (z3d t n ((ts.zip ns).drop (k+1)) (k+1) p c=R):=by have:=HS.out;rw [if_neg (fun h=>by rcases h.2 with h|h;exact q2 h;exact q3 h),HTB.out,HNB.out] at this;exact this
      clear q1 q2 q3 HS
      go_wp2
      exact ⟨⟨k+1,p,c,rfl,rfl,by simp,by omega,by omega,(by first|trivial|rfl),HF⟩,by simp [intOf];omega⟩
   ·have q1':(SN.toList==NB.toList)=false:=by rw [beq_eq_false_iff_ne];exact q1
    have HF:Hid (z3d t n ((ts.zip ns).drop (k+1)) (k+1) p c=R):=by have:=HS.out;rw [if_neg (fun h=>q1 h.1),HTB.out,HNB.out] at this;exact this
    clear q1 HS
    go_wp2
    exact ⟨⟨k+1,p,c,rfl,rfl,by simp,by omega,by omega,(by first|trivial|rfl),HF⟩,by simp [intOf];omega⟩
  ·have hlt':¬ (k:Int)<(m:Int):=by omega
   have hRR:(p,c)=R:=by
    have:=hH.out
    rw [List.drop_eq_nil_of_le (by rw [List.length_zip,HM.out,HT.out];omega)] at this
    exact this
   subst hRR
   have HB:Hid (Below w.heap.size w (w.alloc (.cells #[.slice ta m tc,.slice na m nc] 50))):=A1
   clear hH HR A1 BX hn ht
   by_cases hc1:c=1
   ·subst hc1
    go_wp2
    refine bodyPost_ret_by (v:=.tuple #[.int .i64 (p:Int),.int .i64 0]) ?_ rfl ⟨rfl,HB.out⟩
    simp [results,Tryz.results20,go_sem]
   ·have hc1':¬ (c:Int)=1:=by omega
    go_wp2
    refine bodyPost_ret_by (v:=.tuple #[.int .i64 0,.int .i64 34]) ?_ rfl ⟨rfl,HB.out⟩
    simp [results,Tryz.results20,go_sem]
end Go.Proofs.YtibbenhplmmmiaaGreatDoor

namespace Go.Proofs.YtibbenhplmmmiaaGreatDoor
open Go.ChangeShapes Go.WideShapes Go.ChangeAt Go.WideMaps Go.WideElems Go.RowKit Go.Shelf Go.Lib
theorem bytes16:Tryz.prog.bytesOf 9=16:=by kernel_rfl
theorem strs_open7 {H:Type} {enc:TypeId × Value→H} {W:World} {a:Option Addr} {len cap fuel:Nat} {cs:List Value} {x:DataW H × List MemPlace}
  (hf:DataW.trod enc Tryz.prog W 0 (fun _=>true) true fuel 45 cs=some x) (hcs:cs=[.slice a len cap]) :
  ∃ ss:List (List UInt8),(Sl W a ss∧ss.length=len∧len≤cap∧(a=none→ss=[]))∧(cap=0∨cap*16∈x.1.weights Tryz.prog 45):=by
 subst hcs
 rcases open_strings Tryz.underlying45 Tryz.underlying9 gK hf with ⟨hcs,_⟩|⟨y,l,c,zs,hcs,_,hl,hm,hz,hx,hcell,hwz⟩
 ·simp at hcs
  obtain ⟨rfl,rfl,rfl⟩:=hcs
  exact ⟨[],⟨fun h=>by simp at h,rfl,Nat.le_refl _,fun _=>rfl⟩,.inl rfl⟩
 ·simp at hcs
  obtain ⟨rfl,rfl,rfl⟩:=hcs
  have hzl:zs.length=cap:=by simpa using hz
  refine ⟨(zs.take len).map fun z=>z.data.toList,⟨fun hp=>?_,by simp;omega,hl,fun h=>by cases h⟩,.inr ?_⟩
  ·simp only [List.length_map,List.length_take] at hp
   obtain ⟨b,off,spot⟩:=y
   have h0:=hcell 0 (by omega)
   have hspot:spot=none:=by simpa [Addr.add] using World.cell?_spot h0
   subst hspot
   refine ⟨b,off,rfl,fun i hi=>?_⟩
   simp only [List.length_map,List.length_take] at hi
   have hci:=hcell i (by omega)
   rw [Addr.add_lit] at hci
   rw [hci,List.getElem_map,List.getElem_take]
   simp [List.getD,show i<zs.length by omega]
  ·rw [hx]
   simp only [DataW.weights,Tryz.underlying45,List.mem_cons]
   left
   rw [bytes16]
   congr 1
   simp [strs]
   omega
theorem scope_open {H:Type} {enc:TypeId × Value→H} {W:World} {fuel:Nat} {cs:List Value} {x:DataW H × List MemPlace}
  (hf:DataW.trod enc Tryz.prog W 0 (fun _=>true) true fuel 47 cs=some x) :
  ∃ ta tn tc na nn nc,cs=[.slice ta tn tc,.slice na nn nc]∧∃ ts ns:List (List UInt8),Sl W ta ts∧ts.length=tn∧Sl W na ns∧ns.length=nn∧(ta=none→ts=[])∧(na=none→ns=[])∧tn≤tc∧nn≤nc∧(tc=0∨tc*16∈x.1.weights Tryz.prog 47)∧(nc=0∨nc*16∈x.1.weights Tryz.prog 47):=by
 obtain ⟨y0,y1,m,hx,hl,h0,h1⟩:=trod_struct2 Tryz.underlying47 hf
 have hc:Tryz.prog.cellsOf 47=2:=by kernel_rfl
 have c1:Tryz.prog.cellsOf 45=1:=by kernel_rfl
 rw [hc] at hl
 match cs,hl with
 | [v0,v1],_ =>
  rw [c1] at h0 h1
  have h0':DataW.trod enc Tryz.prog W 0 (fun _=>true) true m 45 [v0]=some y0:=h0
  have h1':DataW.trod enc Tryz.prog W 0 (fun _=>true) true m 45 [v1]=some y1:=h1
  obtain ⟨a,la,ca,e0⟩:=Go.Joins.slice_form Tryz.underlying45 h0'
  obtain ⟨b,lb,cb,e1⟩:=Go.Joins.slice_form Tryz.underlying45 h1'
  simp only [List.cons.injEq,and_true] at e0 e1
  subst e0;subst e1
  obtain ⟨ts,⟨s1,s2,s3,s4⟩,s5⟩:=strs_open7 (a:=a) (len:=la) (cap:=ca) h0' rfl
  obtain ⟨ns,⟨t1,t2,t3,t4⟩,t5⟩:=strs_open7 (a:=b) (len:=lb) (cap:=cb) h1' rfl
  have hw:x.1.weights Tryz.prog 47=y0.1.weights Tryz.prog 45++(y1.1.weights Tryz.prog 45++[]):=by
   rw [hx]
   simp [DataW.weights,Tryz.underlying47,DataW.weightsEach]
  rw [hw]
  refine ⟨a,la,ca,b,lb,cb,rfl,ts,ns,s1,s2,t1,t2,s4,t4,s3,t3,?_,?_⟩
  ·rcases s5 with h|h
   ·exact .inl h
   ·exact .inr (by simp [h])
  ·rcases t5 with h|h
   ·exact .inl h
   ·exact .inr (by simp [h])
theorem scope_sized {H:Type} {ts:List TypeId} {ds:List (DataW H)} {j:Nat} {d:DataW H} {tc nc:Nat} (h:(DataW.weightsEach Tryz.prog ts ds).all (·≤reachBytes)=true) (ht:ts[j]?=some 47) (hd:ds[j]?=some d)
  (h1:tc=0∨tc*16∈d.weights Tryz.prog 47) (h2:nc=0∨nc*16∈d.weights Tryz.prog 47):tc*16≤140737488351232∧nc*16≤140737488351232:=by
 constructor
 ·rcases h1 with rfl|h1
  ·simp
  ·have:=List.all_eq_true.1 h _ (DataW.weights_mem_each ht hd _ h1)
   exact of_decide_eq_true this
 ·rcases h2 with rfl|h2
  ·simp
  ·have:=List.all_eq_true.1 h _ (DataW.weights_mem_each ht hd _ h2)
   exact of_decide_eq_true this
end Go.Proofs.YtibbenhplmmmiaaGreatDoor

namespace Go.Proofs.YtibbenhplmmmiaaGreatDoor
open Go.RowKit Go.Shelf
attribute [local go_sem] z0e z0b z0c z0f z0m z0k z0h z0d z0g
theorem z4r (w:World) (x:Nd) (a b:Value):∃ w0,w0=((w.alloc (.cells (ncs x) 99)).alloc (.cells #[a,b] 50)).alloc (.cells #[.int .i64 0,.int .i64 0,.int .i64 0,.string ⟨#[]⟩] 23) ∧
  Cbox w0 w.heap.size (ncs x) 99∧Cbox w0 (w.heap.size+1) #[a,b] 50∧Box w0 (w.heap.size+1+1) nul∧Below w.heap.size w w0:=by
 have h1:=Cbox.new w (ncs x) 99
 have h2:=Cbox.new (w.alloc (.cells (ncs x) 99)) #[a,b] 50
 have h3:=Box.new ((w.alloc (.cells (ncs x) 99)).alloc (.cells #[a,b] 50)) 0 0 0 []
 simp only [World.size_alloc] at h2 h3
 refine ⟨_,rfl,(h1.later ((Below.refl _ _).alloc (Nat.le_refl _) _)).later ((Below.refl _ _).alloc (Nat.le_refl _) _),h2.later ((Below.refl _ _).alloc (Nat.le_refl _) _),h3,?_⟩
 exact (((Below.refl _ w).alloc (Nat.le_refl _) _).alloc (by simp) _).alloc (by simp;omega) _
theorem z1h {w w':World} {p q:Nat} (h:Below p w w') (hp:p≤q) (a b c:Int) (s:ByteArray):Below p w ((((w'.setCell ⟨q,0,none⟩ (.int .i64 a)).setCell ⟨q,1,none⟩ (.int .i64 b)).setCell ⟨q,2,none⟩ (.int .i64 c)).setCell ⟨q,3,none⟩ (.string s)) :=
 (h.setCell (p:=⟨q,0,none⟩) hp _ |>.setCell (p:=⟨q,1,none⟩) hp _ |>.setCell (p:=⟨q,2,none⟩) hp _ |>.setCell (p:=⟨q,3,none⟩) hp _)
theorem colv_any (x:Nd) (ta na ro:Option Addr) (tc nc rc:Nat) (ts ns:List (List UInt8)) (row:List Va) (w:World) (ht:Sl w ta ts) (hn:Sl w na ns) (hr:Vs w ro row) (hlen:ns.length=row.length) (hl:row.length≤140737488351232) :
  Calls Tryz.prog 114 #[ndv x,scv ta na ts.length ns.length tc nc,.slice ro row.length rc] w fun e w'=>e=.returned (rs (colR x ts ns row))∧Below w.heap.size w w':=by
 have F:Hid (∀ W,Below w.heap.size w W→Calls Tryz.prog 20 #[scv ta na ts.length ns.length tc nc,.string ⟨x.t.toArray⟩,.string ⟨x.n.toArray⟩] W fun e w'=>e=.returned (.tuple #[.int .i64 ((z4z ts ns x.t x.n).1:Int),.int .i64 (z4z ts ns x.t x.n).2])∧Below W.heap.size W w'):=fun W h=>find_any ta na tc nc ts ns x.t x.n W (ht.later h) (hn.later h) (by omega)
 have AT:=fun h=>findR_at (ts:=ts) (ns:=ns) (t:=x.t) (n:=x.n) h
 unfold colR
 generalize z4z ts ns x.t x.n=f at *
 obtain ⟨fp,fe⟩:=f
 simp only at F AT ⊢
 have AL:Hid (fe=0→fp<row.length):=fun h=>by
  obtain ⟨h1,_⟩:=AT h
  omega
 clear AT ht hn hlen
 obtain ⟨xo,xt,xn,xv,xa⟩:=x
 generalize ts.length=p at *
 generalize ns.length=q at *
 obtain ⟨w0,hw0,bn,bs,br0,Bw⟩:=z4r w ⟨xo,xt,xn,xv,xa⟩ (.slice ta p tc) (.slice na q nc)
 have n1:=bn.at 1
 have n2:=bn.at 2
 have ln:=bn.lt
 have s0:=bs.at 0
 have s1:=bs.at 1
 have ls:=bs.lt
 by_cases h0:fe=0
 ·subst h0
  rw [if_pos rfl]
  have hpr:fp<row.length:=AL.out rfl
  obtain ⟨b,off,rfl,hc⟩:=hr (by omega)
  have hc':=hc fp hpr
  have e:row.getD fp nul=row[fp]:=by rw [List.getD_eq_getElem?_getD,List.getElem?_eq_getElem hpr];rfl
  rw [e]
  generalize row[fp]=v at *
  obtain ⟨vk,vn,vm,vb⟩:=v
  have HC:Hid (At4 w b (off+fp*4) ⟨vk,vn,vm,vb⟩):=hc'
  have HB:Hid (Below w.heap.size w w0):=Bw
  have HX:Hid (Box w0 (w.heap.size+1+1) nul):=br0
  have hpr':(fp:Int)<(row.length:Int):=by omega
  have hp0:(0:Int)≤(fp:Int):=by omega
  clear hc hc' hr AL e bn bs br0 Bw
  generalize row.length=m at *
  go_enter Tryz.func114,Tryz.ntmps114
  go_upto_region 1 with fail
  rw [← hw0]
  clear hw0
  go_wp2_with fail
  refine (F.out _ HB.out).mono ?_
  rintro e w1 ⟨rfl,b1⟩
  have B1:=z0a HB.out b1
  have br:=HX.out.later b1
  obtain ⟨c0,c1,c2,c3⟩:=HC.out.later B1
  have hg:=(HC.out.later B1).lt
  obtain ⟨r0,r1,r2,r3⟩:=br.at4
  dsimp only [nul] at r0 r1 r2 r3
  simp only [Nat.zero_add] at r1 r2 r3
  have f0:=br.free 0
  have f1:=br.free 1
  have f2:=br.free 2
  have f3:=br.free 3
  have lt1:=br.lt
  clear n1 n2 ln s0 s1 ls F
  go_wp2
  refine bodyPost_ret_by (v:=.tuple #[va vk vn vm ⟨vb.toArray⟩,.int .i64 0]) ?_ rfl ⟨rfl,z1h B1 (by omega) _ _ _ _⟩
  simp [results,Tryz.results114,go_sem,r0,r1,r2,r3]
 ·rw [if_neg h0]
  have h0':¬ fe=0:=h0
  have HB:Hid (Below w.heap.size w w0):=Bw
  have HX:Hid (Box w0 (w.heap.size+1+1) nul):=br0
  clear hr AL bn bs br0 Bw
  generalize row.length=m at *
  go_enter Tryz.func114,Tryz.ntmps114
  go_upto_region 1 with fail
  rw [← hw0]
  clear hw0
  go_wp2_with fail
  refine (F.out _ HB.out).mono ?_
  rintro e w1 ⟨rfl,b1⟩
  have B1:=z0a HB.out b1
  have br:=HX.out.later b1
  obtain ⟨r0,r1,r2,r3⟩:=br.at4
  dsimp only [nul] at r0 r1 r2 r3
  simp only [Nat.zero_add] at r1 r2 r3
  have f0:=br.free 0
  have f1:=br.free 1
  have f2:=br.free 2
  have f3:=br.free 3
  have lt1:=br.lt
  clear n1 n2 ln s0 s1 ls F
  go_wp2
  refine bodyPost_ret_by (v:=.tuple #[va 0 0 0 ⟨#[]⟩,.int .i64 fe]) ?_ rfl ⟨rfl,z1h B1 (by omega) _ _ _ _⟩
  simp [results,Tryz.results114,go_sem,r0,r1,r2,r3]
theorem eops_any (x:Nd) (w:World):Calls Tryz.prog 61 #[ndv x] w fun e w'=>e=.returned (.int .i64 (opsN x))∧Grew w w':=by
 obtain ⟨o,t,n,v,a⟩:=x
 unfold opsN
 simp only
 by_cases h1:o=19
 ·subst h1
  rw [if_pos rfl]
  go_enter Tryz.func61,Tryz.ntmps61
  go_wp2
  go_ret
  exact ⟨rfl,(Grew.refl _).alloc _⟩
 rw [if_neg h1]
 have e1:(o==19)=false:=by rw [beq_eq_false_iff_ne];exact h1
 by_cases h2:6≤o
 ·rw [if_pos h2]
  go_enter Tryz.func61,Tryz.ntmps61
  go_wp2
  go_ret
  exact ⟨rfl,(Grew.refl _).alloc _⟩
 rw [if_neg h2]
 by_cases h3:3≤o
 ·rw [if_pos h3]
  go_enter Tryz.func61,Tryz.ntmps61
  go_wp2
  go_ret
  exact ⟨rfl,(Grew.refl _).alloc _⟩
 ·rw [if_neg h3]
  go_enter Tryz.func61,Tryz.ntmps61
  go_wp2
  go_ret
  exact ⟨rfl,(Grew.refl _).alloc _⟩
theorem apart_any (v:Va) (w:World) (hb:v.b.length≤140737488351232):Calls Tryz.prog 63 #[vv v] w fun e w'=>e=.returned (vv v)∧Below w.heap.size w w':=by
 obtain ⟨vk,vn,vm,vb⟩:=v
 have C:=fun W=>clone_any ⟨vb.toArray⟩ W hb
 obtain ⟨w0,hw0,bx,br0,Bw⟩:=z1n w ⟨vk,vn,vm,vb⟩
 dsimp only at hw0
 obtain ⟨c0,c1,c2,c3⟩:=bx.at4
 have lt0:=bx.lt
 dsimp only at c0 c1 c2 c3
 simp only [Nat.zero_add] at c1 c2 c3
 go_enter Tryz.func63,Tryz.ntmps63
 go_upto_region 1 with fail
 rw [← hw0]
 clear hw0
 have HB:Hid (Below w.heap.size w w0):=Bw
 have HX:Hid (Box w0 (w.heap.size+1) nul):=br0
 have HV:Hid (Box w0 w.heap.size ⟨vk,vn,vm,vb⟩):=bx
 go_wp2_with fail
 refine (C _).mono ?_
 rintro e w1 ⟨rfl,b1⟩
 have B1:=z0a HB.out b1
 have br:=HX.out.later b1
 have bv:=HV.out.later b1
 obtain ⟨r0,r1,r2,r3⟩:=br.at4
 obtain ⟨d0,d1,d2,d3⟩:=bv.at4
 dsimp only [nul] at r0 r1 r2 r3 d0 d1 d2 d3
 simp only [Nat.zero_add] at r1 r2 r3 d1 d2 d3
 have f0:=br.free 0
 have f1:=br.free 1
 have f2:=br.free 2
 have f3:=br.free 3
 have g3:=bv.free 3
 have lt1:=br.lt
 have lt2:=bv.lt
 clear c0 c1 c2 c3 lt0 C
 go_wp2
 refine bodyPost_ret_by (v:=va vk vn vm ⟨vb.toArray⟩) ?_ rfl ⟨rfl,?_⟩
 ·simp [results,Tryz.results63,go_sem,r0,r1,r2,r3]
 ·exact z1h (B1.setCell (p:=⟨w.heap.size,3,none⟩) (Nat.le_refl _) _) (by omega) _ _ _ _
end Go.Proofs.YtibbenhplmmmiaaGreatDoor

namespace Go.Proofs.YtibbenhplmmmiaaGreatDoor
open Go.RowKit Go.Shelf
attribute [local go_sem] z0e z0b z0c z0f z0m z0k z0h z0d z0g z1r z1e z1x z1d z1q z1s z1z z1p z1y z1k z1u
theorem stp_val (xt xn vb:List UInt8) (vk vn vm xa:Int) (wo ta na ro:Option Addr) (wc tc nc rc p q m:Nat) (n:Nat) (w:World)  :
  Calls Tryz.prog 62 #[.agg #[.int .i64 1,.string ⟨xt.toArray⟩,.string ⟨xn.toArray⟩,.int .i64 vk,.int .i64 vn,.int .i64 vm,.string ⟨vb.toArray⟩,.int .i64 xa],.slice wo n wc,scv ta na p q tc nc,.slice ro m rc] w fun e w'=>e=.returned (.tuple #[va vk vn vm ⟨vb.toArray⟩,.int .i64 0])∧Below w.heap.size w w':=by
 obtain ⟨w0,hw0,bn,bs,br0,Bw⟩:=z4r w ⟨1,xt,xn,⟨vk,vn,vm,vb⟩,xa⟩ (.slice ta p tc) (.slice na q nc)
 have n0:=bn.at 0
 have n1:=bn.at 1
 have n2:=bn.at 2
 have n3:=bn.at 3
 have n4:=bn.at 4
 have n5:=bn.at 5
 have n6:=bn.at 6
 have n7:=bn.at 7
 have ln:=bn.lt
 have s0:=bs.at 0
 have s1:=bs.at 1
 have ls:=bs.lt
 have HB:Hid (Below w.heap.size w w0):=Bw
 have HX:Hid (Box w0 (w.heap.size+1+1) nul):=br0
 clear bn bs br0 Bw
 go_enter Tryz.func62,Tryz.ntmps62
 go_upto_region 1 with fail
 rw [← hw0]
 clear hw0
 have br:=HX.out
 have lt1:=br.lt
 obtain ⟨r0,r1,r2,r3⟩:=br.at4
 dsimp only [nul] at r0 r1 r2 r3
 simp only [Nat.zero_add] at r1 r2 r3
 have f0:=br.free 0
 have f1:=br.free 1
 have f2:=br.free 2
 have f3:=br.free 3
 go_wp2
 refine bodyPost_ret_by (v:=.tuple #[va vk vn vm ⟨vb.toArray⟩,.int .i64 0]) ?_ rfl ⟨rfl,z1h HB.out (by omega) _ _ _ _⟩
 simp [results,Tryz.results62,go_sem,r0,r1,r2,r3]
theorem stp_col (xt xn vb:List UInt8) (vk vn vm xa:Int) (wo ta na ro:Option Addr) (wc tc nc rc p q m:Nat) (n:Nat) (w:World) (rk rn rm re:Int) (rb:ByteArray) (F:z0n 114 #[.agg #[.int .i64 2,.string ⟨xt.toArray⟩,.string ⟨xn.toArray⟩,.int .i64 vk,.int .i64 vn,.int .i64 vm,.string ⟨vb.toArray⟩,.int .i64 xa],scv ta na p q tc nc,.slice ro m rc] w (.tuple #[va rk rn rm rb,.int .i64 re])) :
  Calls Tryz.prog 62 #[.agg #[.int .i64 2,.string ⟨xt.toArray⟩,.string ⟨xn.toArray⟩,.int .i64 vk,.int .i64 vn,.int .i64 vm,.string ⟨vb.toArray⟩,.int .i64 xa],.slice wo n wc,scv ta na p q tc nc,.slice ro m rc] w fun e w'=>e=.returned (.tuple #[va rk rn rm rb,.int .i64 re])∧Below w.heap.size w w':=by
 obtain ⟨w0,hw0,bn,bs,br0,Bw⟩:=z4r w ⟨2,xt,xn,⟨vk,vn,vm,vb⟩,xa⟩ (.slice ta p tc) (.slice na q nc)
 have n0:=bn.at 0
 have n1:=bn.at 1
 have n2:=bn.at 2
 have n3:=bn.at 3
 have n4:=bn.at 4
 have n5:=bn.at 5
 have n6:=bn.at 6
 have n7:=bn.at 7
 have ln:=bn.lt
 have s0:=bs.at 0
 have s1:=bs.at 1
 have ls:=bs.lt
 have HB:Hid (Below w.heap.size w w0):=Bw
 have HX:Hid (Box w0 (w.heap.size+1+1) nul):=br0
 clear bn bs br0 Bw
 go_enter Tryz.func62,Tryz.ntmps62
 go_upto_region 1 with fail
 rw [← hw0]
 clear hw0
 go_wp2_with fail
 refine (F _ HB.out).mono ?_
 rintro e w1 ⟨rfl,b1⟩
 have B1:=z0a HB.out b1
 have br:=HX.out.later b1
 have lt1:=br.lt
 obtain ⟨r0,r1,r2,r3⟩:=br.at4
 dsimp only [nul] at r0 r1 r2 r3
 simp only [Nat.zero_add] at r1 r2 r3
 have f0:=br.free 0
 have f1:=br.free 1
 have f2:=br.free 2
 have f3:=br.free 3
 clear n0 n1 n2 n3 n4 n5 n6 n7 ln s0 s1 ls F
 go_wp2
 refine bodyPost_ret_by (v:=.tuple #[va rk rn rm rb,.int .i64 re]) ?_ rfl ⟨rfl,z1h B1 (by omega) _ _ _ _⟩
 simp [results,Tryz.results62,go_sem,r0,r1,r2,r3]
theorem stp_fun (xt xn vb:List UInt8) (vk vn vm xa:Int) (wo ta na ro:Option Addr) (wc tc nc rc p q m:Nat) (n:Nat) (w:World) (rk rn rm re:Int) (rb:ByteArray) (F:z0n 58 #[.string ⟨xn.toArray⟩,.slice wo n wc] w (.tuple #[va rk rn rm rb,.int .i64 re])) :
  Calls Tryz.prog 62 #[.agg #[.int .i64 19,.string ⟨xt.toArray⟩,.string ⟨xn.toArray⟩,.int .i64 vk,.int .i64 vn,.int .i64 vm,.string ⟨vb.toArray⟩,.int .i64 xa],.slice wo n wc,scv ta na p q tc nc,.slice ro m rc] w fun e w'=>e=.returned (.tuple #[va rk rn rm rb,.int .i64 re])∧Below w.heap.size w w':=by
 obtain ⟨w0,hw0,bn,bs,br0,Bw⟩:=z4r w ⟨19,xt,xn,⟨vk,vn,vm,vb⟩,xa⟩ (.slice ta p tc) (.slice na q nc)
 have n0:=bn.at 0
 have n1:=bn.at 1
 have n2:=bn.at 2
 have n3:=bn.at 3
 have n4:=bn.at 4
 have n5:=bn.at 5
 have n6:=bn.at 6
 have n7:=bn.at 7
 have ln:=bn.lt
 have s0:=bs.at 0
 have s1:=bs.at 1
 have ls:=bs.lt
 have HB:Hid (Below w.heap.size w w0):=Bw
 have HX:Hid (Box w0 (w.heap.size+1+1) nul):=br0
 clear bn bs br0 Bw
 go_enter Tryz.func62,Tryz.ntmps62
 go_upto_region 1 with fail
 rw [← hw0]
 clear hw0
 go_wp2_with fail
 refine (F _ HB.out).mono ?_
 rintro e w1 ⟨rfl,b1⟩
 have B1:=z0a HB.out b1
 have br:=HX.out.later b1
 have lt1:=br.lt
 obtain ⟨r0,r1,r2,r3⟩:=br.at4
 dsimp only [nul] at r0 r1 r2 r3
 simp only [Nat.zero_add] at r1 r2 r3
 have f0:=br.free 0
 have f1:=br.free 1
 have f2:=br.free 2
 have f3:=br.free 3
 clear n0 n1 n2 n3 n4 n5 n6 n7 ln s0 s1 ls F
 go_wp2
 refine bodyPost_ret_by (v:=.tuple #[va rk rn rm rb,.int .i64 re]) ?_ rfl ⟨rfl,z1h B1 (by omega) _ _ _ _⟩
 simp [results,Tryz.results62,go_sem,r0,r1,r2,r3]
theorem stp_one (xo:Int) (xt xn vb:List UInt8) (vk vn vm xa:Int) (wo ta na ro:Option Addr) (wc tc nc rc p q m:Nat) (w:World) (bk off:Nat) (ak an am:Int) (ab:List UInt8) (hwo:wo=some ⟨bk,off,none⟩) (h4:At4 w bk off ⟨ak,an,am,ab⟩) (o1:(xo==1)=false) (o2:(xo==2)=false) (o19:(xo==19)=false) (rk rn rm re:Int) (rb:ByteArray) (F:z0n 115 #[.int .i64 xo,va ak an am ⟨ab.toArray⟩] w (.tuple #[va rk rn rm rb,.int .i64 re])) :
  Calls Tryz.prog 62 #[.agg #[.int .i64 xo,.string ⟨xt.toArray⟩,.string ⟨xn.toArray⟩,.int .i64 vk,.int .i64 vn,.int .i64 vm,.string ⟨vb.toArray⟩,.int .i64 xa],.slice wo 1 wc,scv ta na p q tc nc,.slice ro m rc] w fun e w'=>e=.returned (.tuple #[va rk rn rm rb,.int .i64 re])∧Below w.heap.size w w':=by
 obtain ⟨w0,hw0,bn,bs,br0,Bw⟩:=z4r w ⟨xo,xt,xn,⟨vk,vn,vm,vb⟩,xa⟩ (.slice ta p tc) (.slice na q nc)
 have n0:=bn.at 0
 have n1:=bn.at 1
 have n2:=bn.at 2
 have n3:=bn.at 3
 have n4:=bn.at 4
 have n5:=bn.at 5
 have n6:=bn.at 6
 have n7:=bn.at 7
 have ln:=bn.lt
 have s0:=bs.at 0
 have s1:=bs.at 1
 have ls:=bs.lt
 have HB:Hid (Below w.heap.size w w0):=Bw
 have HX:Hid (Box w0 (w.heap.size+1+1) nul):=br0
 clear bn bs br0 Bw
 go_enter Tryz.func62,Tryz.ntmps62
 go_upto_region 1 with fail
 rw [← hw0]
 clear hw0
 subst hwo
 have br:=HX.out
 have lt1:=br.lt
 obtain ⟨r0,r1,r2,r3⟩:=br.at4
 dsimp only [nul] at r0 r1 r2 r3
 simp only [Nat.zero_add] at r1 r2 r3
 have f0:=br.free 0
 have f1:=br.free 1
 have f2:=br.free 2
 have f3:=br.free 3
 obtain ⟨c0,c1,c2,c3⟩:=h4.later HB.out
 have hg:=(h4.later HB.out).lt
 have hg':=h4.lt
 have z0:IntKind.i64.wrap 0=0:=by rw [IntKind.wrap_i64];rfl
 have z1:IntKind.i64.wrap 1=1:=by rw [IntKind.wrap_i64];rfl
 have nb:¬ w.heap.size+1+1=bk:=by omega
 have nb':¬ bk=w.heap.size+1+1:=by omega
 dsimp only at c0 c1 c2 c3
 clear br h4 s0 s1 ls n1 n2 n3 n4 n5 n6 n7
 go_wp2_with fail
 go_region_held2 (fun W=>W.cell? ⟨bk,off,none⟩=some (.int .i64 ak)∧W.cell? ⟨bk,off+1,none⟩=some (.int .i64 an)∧W.cell? ⟨bk,off+2,none⟩=some (.int .i64 am)∧W.cell? ⟨bk,off+3,none⟩=some (.string ⟨ab.toArray⟩)∧W.cell? ⟨w.heap.size,0,none⟩=some (.int .i64 xo)) (simp (maxDischargeDepth:=12) [go_sem,c0,c1,c2,c3,n0,ln,hg]) ((go_at_call 115;refine (F _ (z0a HB.out (z0z.below gC))).mono ?_;rintro e w2 ⟨rfl,bc⟩;obtain ⟨osc,dc,rfl⟩:=wide bc;clear bc))
 all_goals go_wp2
 all_goals refine bodyPost_ret_by (v:=.tuple #[va rk rn rm rb,.int .i64 re]) ?_ rfl ⟨rfl,?_⟩
 ·simp [results,Tryz.results62,go_sem,r0,r1,r2,r3,lt1]
 ·exact z0a (z1h (q:=w.heap.size+1+1) HB.out (by omega) _ _ _ _) (z0z.below gC)
theorem stp_two (xo:Int) (xt xn vb:List UInt8) (vk vn vm xa:Int) (wo ta na ro:Option Addr) (wc tc nc rc p q m:Nat) (w:World) (bk off:Nat) (ak an am:Int) (ab:List UInt8) (ck cn cm:Int) (cb:List UInt8) (hwo:wo=some ⟨bk,off,none⟩) (h4:At4 w bk off ⟨ak,an,am,ab⟩) (g4:At4 w bk (off+4) ⟨ck,cn,cm,cb⟩) (o1:(xo==1)=false) (o2:(xo==2)=false) (o19:(xo==19)=false) (rk rn rm re:Int) (rb:ByteArray) (F:z0n 56 #[.int .i64 xo,va ak an am ⟨ab.toArray⟩,va ck cn cm ⟨cb.toArray⟩] w (.tuple #[va rk rn rm rb,.int .i64 re])) :
  Calls Tryz.prog 62 #[.agg #[.int .i64 xo,.string ⟨xt.toArray⟩,.string ⟨xn.toArray⟩,.int .i64 vk,.int .i64 vn,.int .i64 vm,.string ⟨vb.toArray⟩,.int .i64 xa],.slice wo 2 wc,scv ta na p q tc nc,.slice ro m rc] w fun e w'=>e=.returned (.tuple #[va rk rn rm rb,.int .i64 re])∧Below w.heap.size w w':=by
 obtain ⟨w0,hw0,bn,bs,br0,Bw⟩:=z4r w ⟨xo,xt,xn,⟨vk,vn,vm,vb⟩,xa⟩ (.slice ta p tc) (.slice na q nc)
 have n0:=bn.at 0
 have n1:=bn.at 1
 have n2:=bn.at 2
 have n3:=bn.at 3
 have n4:=bn.at 4
 have n5:=bn.at 5
 have n6:=bn.at 6
 have n7:=bn.at 7
 have ln:=bn.lt
 have s0:=bs.at 0
 have s1:=bs.at 1
 have ls:=bs.lt
 have HB:Hid (Below w.heap.size w w0):=Bw
 have HX:Hid (Box w0 (w.heap.size+1+1) nul):=br0
 clear bn bs br0 Bw
 go_enter Tryz.func62,Tryz.ntmps62
 go_upto_region 1 with fail
 rw [← hw0]
 clear hw0
 subst hwo
 have br:=HX.out
 have lt1:=br.lt
 obtain ⟨r0,r1,r2,r3⟩:=br.at4
 dsimp only [nul] at r0 r1 r2 r3
 simp only [Nat.zero_add] at r1 r2 r3
 have f0:=br.free 0
 have f1:=br.free 1
 have f2:=br.free 2
 have f3:=br.free 3
 obtain ⟨c0,c1,c2,c3⟩:=h4.later HB.out
 have hg:=(h4.later HB.out).lt
 have hg':=h4.lt
 obtain ⟨d0,d1,d2,d3⟩:=g4.later HB.out
 have z0:IntKind.i64.wrap 0=0:=by rw [IntKind.wrap_i64];rfl
 have z1:IntKind.i64.wrap 1=1:=by rw [IntKind.wrap_i64];rfl
 have nb:¬ w.heap.size+1+1=bk:=by omega
 have nb':¬ bk=w.heap.size+1+1:=by omega
 dsimp only at c0 c1 c2 c3 d0 d1 d2 d3
 clear br h4 g4 s0 s1 ls n1 n2 n3 n4 n5 n6 n7
 go_wp2_with fail
 go_region_held2 (fun W=>W.cell? ⟨bk,off,none⟩=some (.int .i64 ak)∧W.cell? ⟨bk,off+1,none⟩=some (.int .i64 an)∧W.cell? ⟨bk,off+2,none⟩=some (.int .i64 am)∧W.cell? ⟨bk,off+3,none⟩=some (.string ⟨ab.toArray⟩)∧W.cell? ⟨bk,off+4,none⟩=some (.int .i64 ck)∧W.cell? ⟨bk,off+4+1,none⟩=some (.int .i64 cn)∧W.cell? ⟨bk,off+4+2,none⟩=some (.int .i64 cm)∧W.cell? ⟨bk,off+4+3,none⟩=some (.string ⟨cb.toArray⟩)∧W.cell? ⟨w.heap.size,0,none⟩=some (.int .i64 xo)) (simp (maxDischargeDepth:=12) [go_sem,c0,c1,c2,c3,d0,d1,d2,d3,n0,ln,hg]) ((go_at_call 56;refine (F _ (z0a HB.out (z0z.below gC))).mono ?_;rintro e w2 ⟨rfl,bc⟩;obtain ⟨osc,dc,rfl⟩:=wide bc;clear bc))
 all_goals go_wp2
 all_goals refine bodyPost_ret_by (v:=.tuple #[va rk rn rm rb,.int .i64 re]) ?_ rfl ⟨rfl,?_⟩
 ·simp [results,Tryz.results62,go_sem,r0,r1,r2,r3,lt1]
 ·exact z0a (z1h (q:=w.heap.size+1+1) HB.out (by omega) _ _ _ _) (z0z.below gC)
end Go.Proofs.YtibbenhplmmmiaaGreatDoor

namespace Go.Proofs.YtibbenhplmmmiaaGreatDoor
open Go.RowKit Go.Shelf
theorem stp_any (x:Nd) (wo ta na ro:Option Addr) (wc tc nc rc:Nat) (of:List Va) (ts ns:List (List UInt8)) (row:List Va) (w:World) (hT:Tabs w) (hP:Pw w) (hw:Vs w wo of) (ht:Sl w ta ts) (hn:Sl w na ns) (hr:Vs w ro row) (hlen:ns.length=row.length) (hl:row.length≤140737488351232) (hm:mayN x=true) (ho:(of.length:Int)=opsN x) (hi:∀ v∈of,vin v) :
  Calls Tryz.prog 62 #[ndv x,.slice wo of.length wc,scv ta na ts.length ns.length tc nc,.slice ro row.length rc] w fun e w'=>e=.returned (rs (stpR x of ts ns row))∧Below w.heap.size w w':=by
 have hops:=z7w x hm
 have hfit:fitN x=true:=by unfold mayN at hm;rw [Bool.and_eq_true] at hm;exact hm.2
 have CV:z0n 114 #[ndv x,scv ta na ts.length ns.length tc nc,.slice ro row.length rc] w (rs (colR x ts ns row)):=fun W h=>colv_any x ta na ro tc nc rc ts ns row W (ht.later h) (hn.later h) (hr.later h) hlen hl
 obtain ⟨xo,xt,xn,⟨vk,vn,vm,vb⟩,xa⟩:=x
 unfold stpR
 simp only
 by_cases h1:xo=1
 ·subst h1
  rw [if_pos rfl]
  exact stp_val xt xn vb vk vn vm xa wo ta na ro wc tc nc rc ts.length ns.length row.length of.length w
 rw [if_neg h1]
 by_cases h2:xo=2
 ·subst h2
  rw [if_pos rfl]
  rcases hc:colR ⟨2,xt,xn,⟨vk,vn,vm,vb⟩,xa⟩ ts ns row with ⟨⟨rk,rn,rm,rb⟩,re⟩
  rw [hc] at CV
  exact stp_col xt xn vb vk vn vm xa wo ta na ro wc tc nc rc ts.length ns.length row.length of.length w rk rn rm re ⟨rb.toArray⟩ CV
 rw [if_neg h2]
 clear CV
 by_cases h19:xo=19
 ·subst h19
  rw [if_pos rfl]
  have F:z0n 58 #[.string ⟨xn.toArray⟩,.slice wo of.length wc] w (rs (funR xn of)):=fun W h=>qfunction_any xn wo wc of W (hT.later h) (hP.below h) (hw.later h) (by unfold opsN at hops ho;simp at hops ho;omega) hi
  rcases hc:funR xn of with ⟨⟨rk,rn,rm,rb⟩,re⟩
  rw [hc] at F
  exact stp_fun xt xn vb vk vn vm xa wo ta na ro wc tc nc rc ts.length ns.length row.length of.length w rk rn rm re ⟨rb.toArray⟩ F
 rw [if_neg h19]
 have o1:(xo==1)=false:=by rw [beq_eq_false_iff_ne];exact h1
 have o2:(xo==2)=false:=by rw [beq_eq_false_iff_ne];exact h2
 have o19:(xo==19)=false:=by rw [beq_eq_false_iff_ne];exact h19
 have hx3:3≤xo:=by
  unfold fitN at hfit
  simp only [h1,h2,h19,if_false,Bool.and_eq_true,decide_eq_true_eq] at hfit
  exact hfit.1
 unfold opsN at ho
 simp only [h19,if_false,hx3,if_true] at ho
 match of,hw,hi,ho with
 | [],_,_,ho=>simp at ho;split at ho <;> omega
 | [a],hw,hi,_ =>
  rw [if_pos (show [a].length=1 from rfl)]
  obtain ⟨b,off,rfl,hc⟩:=hw (by simp)
  have h4:At4 w b off a:=by have:=hc 0 (by simp);simpa using this
  have F:z0n 115 #[.int .i64 xo,vv a] w (rs (unR xo a)):=fun W h=>qun_any xo a W (hT.later h) (hP.below h) (hi a (by simp))
  show Calls _ _ _ _ fun e w'=>e=.returned (rs (unR xo a))∧_
  rcases hu:unR xo a with ⟨⟨rk,rn,rm,rb⟩,re⟩
  rw [hu] at F
  obtain ⟨ak,an,am,ab⟩:=a
  exact stp_one xo xt xn vb vk vn vm xa _ ta na ro wc tc nc rc ts.length ns.length row.length w b off ak an am ab rfl h4 o1 o2 o19 rk rn rm re ⟨rb.toArray⟩ F
 | [a,c],hw,hi,_ =>
  rw [if_neg (show ¬ [a,c].length=1 by simp)]
  obtain ⟨b,off,rfl,hc⟩:=hw (by simp)
  have h4:At4 w b off a:=by have:=hc 0 (by simp);simpa using this
  have g4:At4 w b (off+4) c:=by have:=hc 1 (by simp);simpa using this
  have F:z0n 56 #[.int .i64 xo,vv a,vv c] w (rs (binR xo a c)):=fun W h=>qbin_any xo a c W (hT.later h) (hP.below h) (hi a (by simp)) (hi c (by simp))
  show Calls _ _ _ _ fun e w'=>e=.returned (rs (binR xo a c))∧_
  rcases hu:binR xo a c with ⟨⟨rk,rn,rm,rb⟩,re⟩
  rw [hu] at F
  obtain ⟨ak,an,am,ab⟩:=a
  obtain ⟨ck,cn,cm,cb⟩:=c
  exact stp_two xo xt xn vb vk vn vm xa _ ta na ro wc tc nc rc ts.length ns.length row.length w b off ak an am ab ck cn cm cb rfl h4 g4 o1 o2 o19 rk rn rm re ⟨rb.toArray⟩ F
 | _::_::_::_,_,_,ho=>simp at ho;split at ho <;> omega
abbrev vcs (v:Va):Array Value:=#[.int .i64 v.k,.int .i64 v.n,.int .i64 v.m,.string ⟨v.b.toArray⟩]
def z1v (l:List Va):List Value:=l.flatMap fun v=>(vcs v).toList
theorem z5c (l:List Va):(z1v l).length=l.length*4:=by
 induction l with
 | nil=>rfl
 | cons a l ih =>
  have e:z1v (a::l)=(vcs a).toList++z1v l:=by simp [z1v]
  rw [e,List.length_append,ih,List.length_cons]
  simp
  omega
theorem vcells_app (l r:List Va):z1v (l++r)=z1v l++z1v r:=by simp [z1v]
theorem vcells_at (x:List Va):∀ (i j:Nat) (hi:i<x.length),j<4→(z1v x)[i*4+j]?=(vcs x[i])[j]?:=by
 induction x with
 | nil=>intro i j hi;simp at hi
 | cons t x ih =>
  intro i j hi hj
  have e:z1v (t::x)=(vcs t).toList++z1v x:=by simp [z1v]
  rw [e]
  cases i with
  | zero =>
   rw [List.getElem?_append_left (by simpa using hj)]
   simp
  | succ i =>
   rw [List.getElem?_append_right (by simp;omega)]
   simp at hi
   have:=ih i j hi hj
   simp only [List.getElem_cons_succ]
   rw [← this]
   congr 1
   simp;omega
theorem vcells_take (l:List Va) (f:Nat) (h:f≤l.length):(z1v l).take (f*4)=z1v (l.take f):=by
 have e:z1v l=z1v (l.take f)++z1v (l.drop f):=by rw [← vcells_app,List.take_append_drop]
 rw [e,List.take_append_of_le_length (by rw [z5c,List.length_take];omega),List.take_of_length_le (by rw [z5c,List.length_take];omega)]
theorem one_va (v:Va):∀ u∈(vcs v).toList,u.oneCell'=true:=by
 intro u hu
 simp at hu
 rcases hu with rfl|rfl|rfl|rfl <;> rfl
abbrev Vk (w:World) (base:Nat) (v:Value) (st:List Va):Prop:=w.ownsRow base 23 4 v st.length (z1v st)
theorem Vk.shape {w:World} {base:Nat} {v:Value} {st:List Va} (h:Vk w base v st) :
  ∃ ao cap,v=.slice ao st.length cap∧st.length≤cap∧(ao=none→st=[]∧cap=0)∧(∀ f,f≤st.length→Vk w base (.slice ao f cap) (st.take f))∧(∀ a,ao=some a→∃ g,a=⟨g,0,none⟩∧base≤g∧g<w.heap.size∧∀ i (h:i<st.length),At4 w g (i*4) st[i]):=by
 obtain ⟨h1,h2⟩:=h
 rcases h2 with ⟨rfl,hn⟩|⟨g,cap,cur,rfl,hb,hg,hnc,hcm,hcs,htake⟩
 ·have:st=[]:=List.length_eq_zero_iff.1 hn
  subst this
  exact ⟨none,0,rfl,Nat.le_refl _,fun _=>⟨rfl,rfl⟩,fun f hf=>by simp at hf;subst hf;exact World.ownsRow_nil _ _ _ _,fun a ha=>by cases ha⟩
 ·refine ⟨some ⟨g,0,none⟩,cap,rfl,hnc,(fun h=>by cases h),fun f hf=>?_,fun a ha=>?_⟩
  ·have e:(st.take f).length=f:=by rw [List.length_take];omega
   show w.ownsRow base _ 4 _ (st.take f).length _
   rw [e]
   refine ⟨by rw [z5c,e],.inr ⟨g,cap,cur,rfl,hb,hg,by omega,hcm,hcs,?_⟩⟩
   have:cur.toList.take (f*4)=(cur.toList.take (st.length*4)).take (f*4):=by rw [List.take_take,Nat.min_eq_left (by omega)]
   rw [this,htake,vcells_take st f hf]
  ·cases ha
   have hlt:g<w.heap.size:=by
    rcases Nat.lt_or_ge g w.heap.size with h|h
    ·exact h
    ·rw [Array.getElem?_eq_none h] at hg;cases hg
   refine ⟨g,rfl,hb,hlt,fun i hi=>?_⟩
   have hc:∀ j,j<4→w.cell? ⟨g,i*4+j,none⟩=(vcs st[i])[j]?:=by
    intro j hj
    rw [← vcells_at st i j hi hj,cell_of_row w g (i*4+j) cur _ (0,0) hg,← htake]
    rw [List.getElem?_take,if_pos (by omega)]
    simp
   exact ⟨hc 0 (by decide),hc 1 (by decide),hc 2 (by decide),hc 3 (by decide)⟩
theorem Vk.push {w:World} {base n:Nat} {d:Va} {v:Value} {st:List Va} (hl:st.length=n) (h:w.ownsRow base 23 4 v (n+1) (z1v st++(vcs d).toList)):Vk w base v (st++[d]):=by
 subst hl
 show w.ownsRow _ _ _ _ (st++[d]).length (z1v (st++[d]))
 have e1:(st++[d]).length=st.length+1:=by simp
 have e2:z1v (st++[d])=z1v st++(vcs d).toList:=by rw [vcells_app];simp [z1v]
 rw [e1,e2]
 exact h
theorem Vk.later {w w':World} {base:Nat} {v:Value} {st:List Va} (h:Vk w base v st) (hb:Below w.heap.size w w'):Vk w' base v st :=
 World.ownsRow.kept (row:=none) h ⟨hb.os,hb.tape,hb.output,hb.size,fun k hk _=>hb.block k hk⟩ (by
  cases hv:v.ownBlock with
  | none=>exact .inl rfl
  | some k=>exact .inr (by simp))
theorem At4.grown {w w':World} {p o:Nat} {v:Va} {row:Option Nat} (h:At4 w p o v) (hg:w.grownBy w' row) (hne:some p≠row):At4 w' p o v:=by
 have hl:=h.lt
 obtain ⟨h0,h1,h2,h3⟩:=h
 exact ⟨(hg.cell_far ⟨p,o,none⟩ hl hne).trans h0,(hg.cell_far ⟨p,o+1,none⟩ hl hne).trans h1,(hg.cell_far ⟨p,o+2,none⟩ hl hne).trans h2,(hg.cell_far ⟨p,o+3,none⟩ hl hne).trans h3⟩
theorem runD_one {x:Nd} {l:List Nd} {st r:List Nat} (h:runD mayN (x::l) st=some r):mayN x=true∧opsN x≤(st.length:Int)∧∃ st',st'.length=st.length - (opsN x).toNat+1∧runD mayN l st'=some r:=by
 unfold runD at h
 cases hs:stepD mayN st x with
 | none=>rw [hs] at h;cases h
 | some st' =>
  rw [hs] at h
  unfold stepD at hs
  split at hs
  case isFalse=>cases hs
  case isTrue hc =>
   refine ⟨hc.1,hc.2,st',?_,h⟩
   cases hs
   rw [List.length_append,List.length_take]
   simp
theorem dep_one {l:List Nd} (h:0<depN mayN l):l.length≤256∧∃ d,runD mayN l []=some [d]:=by
 unfold depN at h
 split at h
 case isFalse=>omega
 case isTrue hl =>
  refine ⟨hl,?_⟩
  unfold depO at h
  split at h
  ·exact ⟨_,by assumption⟩
  ·omega
end Go.Proofs.YtibbenhplmmmiaaGreatDoor

namespace Go.Proofs.YtibbenhplmmmiaaGreatDoor
open Go.RowKit Go.Shelf
attribute [local go_sem] z0e z0b z0c z0f z0m z0k z0h z0d z0g
theorem findS_more (t n:List UInt8) (l:List (List UInt8 × List UInt8)) (i p c:Nat):c≤(z3d t n l i p c).2:=by
 rcases findS_at t n l i p c with ⟨_,h⟩|⟨h,_⟩ <;> omega
theorem rfind_any (ta na:Option Addr) (tc nc:Nat) (ts ns:List (List UInt8)) (t n:List UInt8) (w:World) (ht:Sl w ta ts) (hn:Sl w na ns) (hl:ns.length≤140737488351232) :
  Calls Tryz.prog 22 #[scv ta na ts.length ns.length tc nc,.string ⟨t.toArray⟩,.string ⟨n.toArray⟩] w fun e w'=>e=.returned (.tuple #[.int .i64 ((z4z ts ns t n).1:Int),.int .i64 (z4z ts ns t n).2])∧Below w.heap.size w w':=by
 unfold z4z
 by_cases hne:ts.length=ns.length
 case neg =>
  rw [if_neg hne]
  clear ht hn hl
  generalize ts.length=p at *
  generalize ns.length=q at *
  have h1:¬ (p:Int)=(q:Int):=by omega
  go_enter Tryz.func22,Tryz.ntmps22
  go_wp2
  refine bodyPost_ret_by (v:=.tuple #[.int .i64 0,.int .i64 1]) ?_ rfl ⟨rfl,(Below.refl _ _).alloc (Nat.le_refl _) _⟩
  simp [results,Tryz.results22,go_sem]
 rw [if_pos hne]
 obtain ⟨R,hR⟩:∃ R,R=z3d t n (ts.zip ns) 0 0 0:=⟨_,rfl⟩
 rw [← hR]
 have HR:Hid (z3d t n ((ts.zip ns).drop 0) 0 0 0=R):=hR.symm
 clear hR
 obtain ⟨m,hm⟩:∃ m,ns.length=m:=⟨_,rfl⟩
 have HM:Hid (ns.length=m):=hm
 have HT:Hid (ts.length=m):=by show _=_;omega
 rw [show ts.length=m from HT.out,hm]
 rw [hm] at hl
 have BX:Cbox (w.alloc (.cells #[.slice ta m tc,.slice na m nc] 47)) w.heap.size #[.slice ta m tc,.slice na m nc] 47:=Cbox.new w _ _
 have A1:Below w.heap.size w (w.alloc (.cells #[.slice ta m tc,.slice na m nc] 47)):=(Below.refl _ _).alloc (Nat.le_refl _) _
 clear hm hne
 obtain ⟨TB,hTB⟩:∃ TB:ByteArray,TB=⟨t.toArray⟩:=⟨_,rfl⟩
 obtain ⟨NB,hNB⟩:∃ NB:ByteArray,NB=⟨n.toArray⟩:=⟨_,rfl⟩
 have HTB:Hid (TB.toList=t):=by show _=_;rw [hTB,ByteArray.toList_eq]
 have HNB:Hid (NB.toList=n):=by show _=_;rw [hNB,ByteArray.toList_eq]
 rw [← hTB,← hNB]
 clear hTB hNB
 go_enter Tryz.func22,Tryz.ntmps22
 go_wp2
 go_loopw [8,9] (fun r8 r9 wr=>∃ k p c:Nat,∃ z:Int,r8=.int .i64 z∧((c=0∧z=-1)∨(c=1∧z=(p:Int)))∧p≤k∧r9=.int .i64 (k:Int)∧k≤m∧wr=(w.alloc (.cells #[.slice ta m tc,.slice na m nc] 47))∧Hid (z3d t n ((ts.zip ns).drop k) k p c=R)) (fun _ r _=>m - (intOf r).toNat)
 case atStart=>exact ⟨0,0,0,-1,rfl,.inl ⟨rfl,rfl⟩,Nat.zero_le _,rfl,Nat.zero_le _,rfl,HR⟩
 case round =>
  obtain ⟨k,p,c,z,rfl,hcz,hpk,rfl,hk,rfl,hH⟩:=hrel
  have z0:=BX.at 0
  have z1:=BX.at 1
  have zl:=BX.lt
  by_cases hlt:k<m
  ·have hlt':(k:Int)<(m:Int):=by omega
   have k0:(0:Int)≤(k:Int):=by omega
   have hkn:k<ns.length:=by rw [HM.out];exact hlt
   have hkt:k<ts.length:=by rw [HT.out];exact hlt
   obtain ⟨nb,noff,rfl,hcn⟩:=(hn.later A1) (by omega)
   obtain ⟨tb,toff,rfl,hct⟩:=(ht.later A1) (by omega)
   have cn:=hcn k hkn
   have ct:=hct k hkt
   have gn:=World.block_lt_of_cell? _ _ cn
   have gt:=World.block_lt_of_cell? _ _ ct
   have hzl:k<(ts.zip ns).length:=by rw [List.length_zip];omega
   have hdr:(ts.zip ns).drop k=(ts[k],ns[k])::(ts.zip ns).drop (k+1):=by rw [List.drop_eq_getElem_cons hzl,List.getElem_zip]
   have hst:=hH.out
   rw [hdr] at hst
   unfold z3d at hst
   obtain ⟨SN,hSN⟩:∃ SN:ByteArray,SN=⟨ns[k].toArray⟩:=⟨_,rfl⟩
   obtain ⟨ST,hST⟩:∃ ST:ByteArray,ST=⟨ts[k].toArray⟩:=⟨_,rfl⟩
   have e1:SN.toList=ns[k]:=by rw [hSN,ByteArray.toList_eq]
   have e2:ST.toList=ts[k]:=by rw [hST,ByteArray.toList_eq]
   rw [← hSN] at cn
   rw [← hST] at ct
   rw [← e1,← e2,← HNB.out,← HTB.out] at hst
   simp only at gn gt
   have HS:Hid ((if SN.toList=NB.toList∧(TB.toList=[]∨ST.toList=TB.toList) then z3d TB.toList NB.toList ((ts.zip ns).drop (k+1)) (k+1) k (c+1) else z3d TB.toList NB.toList ((ts.zip ns).drop (k+1)) (k+1) p c)=R):=hst
   have HB:Hid (Below w.heap.size w (w.alloc (.cells #[.slice (some ⟨tb,toff,none⟩) m tc,.slice (some ⟨nb,noff,none⟩) m nc] 47))):=A1
   have HCZ:Hid ((c=0∧z=-1)∨(c=1∧z=(p:Int))):=hcz
   clear hcn hct hdr hst hH hSN hST e1 e2 HR A1 BX hn ht hzl hcz
   by_cases q1:SN.toList=NB.toList
   ·have q1':(SN.toList==NB.toList)=true:=by rw [beq_iff_eq];exact q1
    by_cases q23:TB.toList=[]∨ST.toList=TB.toList
    ·have HF:Hid (z3d t n ((ts.zip ns).drop (k+1)) (k+1) k (c+1)=R):=by have:=HS.out;rw [if_pos ⟨q1,q23⟩,HTB.out,HNB.out] at this;exact this
     clear HS
     by_cases q2:TB.toList=[]
     ·have q2':TB.toList.isEmpty=true:=by rw [List.isEmpty_iff];exact q2
      rcases HCZ.out with ⟨rfl,rfl⟩|⟨rfl,rfl⟩
      ·clear q1 q2 q23 HCZ
       go_wp2
       exact ⟨⟨k+1,k,1,(k:Int),rfl,.inr ⟨rfl,rfl⟩,by omega,by simp,by omega,(by first|trivial|rfl),HF⟩,by simp [intOf];omega⟩
      ·have hp0:(0:Int)≤(p:Int):=by omega
       have HN1:Hid (¬ R.2=1):=by
        have:=findS_more t n ((ts.zip ns).drop (k+1)) (k+1) k (1+1)
        rw [HF.out] at this
        intro h
        omega
       clear q1 q2 q23 HCZ
       go_wp2
       refine bodyPost_ret_by (v:=.tuple #[.int .i64 0,.int .i64 34]) ?_ rfl ⟨by first|rfl|(rw [if_neg HN1.out];rfl),HB.out⟩
       simp [results,Tryz.results22,go_sem]
     ·have q2':TB.toList.isEmpty=false:=by rw [← Bool.not_eq_true,List.isEmpty_iff];exact q2
      have q3':(ST.toList==TB.toList)=true:=by rw [beq_iff_eq];rcases q23 with h|h;exact absurd h q2;exact h
      rcases HCZ.out with ⟨rfl,rfl⟩|⟨rfl,rfl⟩
      ·clear q1 q2 q23 HCZ
       go_wp2
       exact ⟨⟨k+1,k,1,(k:Int),rfl,.inr ⟨rfl,rfl⟩,by omega,by simp,by omega,(by first|trivial|rfl),HF⟩,by simp [intOf];omega⟩
      ·have hp0:(0:Int)≤(p:Int):=by omega
       have HN1:Hid (¬ R.2=1):=by
        have:=findS_more t n ((ts.zip ns).drop (k+1)) (k+1) k (1+1)
        rw [HF.out] at this
        intro h
        omega
       clear q1 q2 q23 HCZ
       go_wp2
       refine bodyPost_ret_by (v:=.tuple #[.int .i64 0,.int .i64 34]) ?_ rfl ⟨by first|rfl|(rw [if_neg HN1.out];rfl),HB.out⟩
       simp [results,Tryz.results22,go_sem]
    ·have q2':TB.toList.isEmpty=false:=by rw [← Bool.not_eq_true,List.isEmpty_iff];exact fun h=>q23 (.inl h)
     have q3':(ST.toList==TB.toList)=false:=by rw [beq_eq_false_iff_ne];exact fun h=>q23 (.inr h)
     have HF:Hid (z3d t n ((ts.zip ns).drop (k+1)) (k+1) p c=R):=by have:=HS.out;rw [if_neg (fun h=>q23 h.2),HTB.out,HNB.out] at this;exact this
     clear q1 q23 HS
     go_wp2
     exact ⟨⟨k+1,p,c,z,rfl,HCZ.out,by omega,by simp,by omega,(by first|trivial|rfl),HF⟩,by simp [intOf];omega⟩
   ·have q1':(SN.toList==NB.toList)=false:=by rw [beq_eq_false_iff_ne];exact q1
    have HF:Hid (z3d t n ((ts.zip ns).drop (k+1)) (k+1) p c=R):=by have:=HS.out;rw [if_neg (fun h=>q1 h.1),HTB.out,HNB.out] at this;exact this
    clear q1 HS
    go_wp2
    exact ⟨⟨k+1,p,c,z,rfl,HCZ.out,by omega,by simp,by omega,(by first|trivial|rfl),HF⟩,by simp [intOf];omega⟩
  ·have hlt':¬ (k:Int)<(m:Int):=by omega
   have hRR:(p,c)=R:=by
    have:=hH.out
    rw [List.drop_eq_nil_of_le (by rw [List.length_zip,HM.out,HT.out];omega)] at this
    exact this
   subst hRR
   have HB:Hid (Below w.heap.size w (w.alloc (.cells #[.slice ta m tc,.slice na m nc] 47))):=A1
   clear hH HR A1 BX hn ht
   rcases hcz with ⟨rfl,rfl⟩|⟨rfl,rfl⟩
   ·go_wp2
    refine bodyPost_ret_by (v:=.tuple #[.int .i64 0,.int .i64 34]) ?_ rfl ⟨rfl,HB.out⟩
    simp [results,Tryz.results22,go_sem]
   ·have hp0:¬ (p:Int)<0:=by omega
    go_wp2
    refine bodyPost_ret_by (v:=.tuple #[.int .i64 (p:Int),.int .i64 0]) ?_ rfl ⟨rfl,HB.out⟩
    simp [results,Tryz.results22,go_sem]
end Go.Proofs.YtibbenhplmmmiaaGreatDoor

namespace Go.Proofs.YtibbenhplmmmiaaGreatDoor
open Go.RowKit Go.Shelf
section
variable {P:Program} {w:World}
theorem z7q (base:Nat) (t tx ty e:TypeId) (i:TypeInfo) (z:Value) (size bytes:Nat) (ht:P.underlying t=some (.slice e)) (hi:P.info? e=some i) (hz:i.zero=some z)
  (hsize:i.size=size) (hby:i.bytes=bytes) (hzs:z.cells.size=size)
  (v:Value) (n:Nat) (xs:List Value) (hown:w.ownsRow base e size v n xs) (x:Value) (m:Nat) (news:List Value) (hs:Src P size tx x m news w)
  (h63:n+m≤maxLen) (hbytes:(n+m)*bytes≤140737488355328) (hbase:base≤w.heap.size) :
  ∃ v' w',(Builtin.append_ #[t,tx] ty #[v,x]).run P w=.ok v' w'∧w'.ownsRow base e size v' (n+m) (xs++news)∧w.grownBy w' v.ownBlock∧(v'.ownBlock=v.ownBlock∨v'.ownBlock=some w.heap.size):=by
 subst hsize
 subst hby
 have hl:=hs.newsLen
 have hsmall:n+m≤9223372036854775807:=by simp only [maxLen] at h63;omega
 have hlen:(xs++news).length=(n+m)*i.size:=by rw [List.length_append,hown.1,hl,Nat.add_mul]
 have grown:∀ (old:Nat),old<n+m→∀ (row:Option Nat),
   (w.drew.alloc (.cells ((xs++news).toArray++Builtin.zeroCells z.cells (grownCap w (n+m) old e - (n+m))) e)).ownsRow base e i.size
    (.slice (some ⟨w.heap.size,0,none⟩) (n+m) (grownCap w (n+m) old e)) (n+m) (xs++news) ∧
   w.grownBy (w.drew.alloc (.cells ((xs++news).toArray++Builtin.zeroCells z.cells (grownCap w (n+m) old e - (n+m))) e)) row:=by
  intro old ho row
  have hge:=grownCap_ge w (n+m) old e
  have hcm:grownCap w (n+m) old e≤maxLen:=grownCap_le_maxLen w (n+m) old e h63
  refine ⟨⟨hlen,.inr ⟨w.heap.size,_,_,rfl,hbase,heap_alloc_new w.drew _,hge,hcm,?_,?_⟩⟩,⟨rfl,rfl,rfl,by simp,fun k hk _=>Below.heap_alloc w.drew _ k hk⟩⟩
  ·simp only [Array.size_append,List.size_toArray,size_zeroCells,hzs,hlen,← Nat.add_mul]
   congr 1
   omega
  ·simp only [Array.toList_append]
   rw [← hlen]
   exact List.take_left
 rcases hown.2 with ⟨rfl,rfl⟩|⟨g,cap,cur,rfl,hbg,hg,hnc,hcm,hcs,htake⟩
 ·have hx:xs=[]:=List.eq_nil_of_length_eq_zero (by simpa using hown.1)
  subst hx
  by_cases hm:m=0
  ·subst hm
   have hn:news=[]:=List.eq_nil_of_length_eq_zero (by simpa using hl)
   subst hn
   have hcl:=hs.cells
   refine ⟨.slice none 0 0,w,?_,World.ownsRow_nil w base e i.size,⟨rfl,rfl,rfl,Nat.le_refl _,fun _ _ _=>rfl⟩,.inl rfl⟩
   rcases hs.kind with ⟨e',hk⟩|hk <;> simp [Builtin.append_,run_underlying ht,run_underlying hk,sizeOf,typeInfo,hi,hs.len,hcl]
  ·have hr:=run_append_grow_src (P:=P) w t tx ty e i z ht hi hz none 0 0 [] (run_firstCells_none w.drew i.size 0 0 0) x m news hs (by omega) (by omega) (growslice_fits (by omega) hbytes)
   have hgr:=grown 0 (by omega) (Value.ownBlock (.slice none 0 0))
   exact ⟨_,_,hr,hgr.1,hgr.2,.inr rfl⟩
 ·by_cases hroom:n+m≤cap
  ·have hfit:n*i.size+news.length≤cur.size:=by rw [hl,hcs,← Nat.add_mul];exact Nat.mul_le_mul_right _ hroom
   have hr:=z4h (P:=P) t tx ty e i ht hi g n cap cur hg x m news hs hroom hfit
   refine ⟨_,_,hr,⟨hlen,.inr ⟨g,cap,_,rfl,hbg,setRow_heap w g cur _ e _ hg,hroom,hcm,?_,?_⟩⟩,⟨rfl,rfl,rfl,by simp,fun k _ hk=>setRow_other w g k _ (fun e=>hk (by simp [Value.ownBlock,e]))⟩,.inl rfl⟩
   ·simp only [List.size_toArray,List.length_append,List.length_take,List.length_drop,Array.length_toList]
    omega
   ·rw [htake,← hlen]
    exact List.take_left
  ·have holds:∀ j u,xs[j]?=some u→w.drew.cell? ((⟨g,0,none⟩:Addr).add j)=some u:=hown.cells (g:=g) rfl
   have hr:=run_append_grow_src (P:=P) w t tx ty e i z ht hi hz (some ⟨g,0,none⟩) n cap xs (run_firstCells_some w.drew i.size n ⟨g,0,none⟩ n cap xs hown.1 holds) x m news hs (by omega) (by omega) (growslice_fits (by omega) hbytes)
   have hgr:=grown cap (by omega) (Value.ownBlock (.slice (some ⟨g,0,none⟩) n cap))
   exact ⟨_,_,hr,hgr.1,hgr.2,.inr rfl⟩
theorem z1m {ops:Array Oper} {o:Oper} {a:Act} {K:Act→World→Prop} {Q:Exit→Act→World→Prop} {E:Prop} (hgd:o.guard=none) (s x:Operand) (t tx:TypeId)
  (ho:o.op=.call { callee:=.builtin .append,args:=#[s,x],argTypes:=#[t,tx] })
  (base:Nat) (e:TypeId) (i:TypeInfo) (z:Value) (size bytes:Nat) (ht:P.underlying t=some (.slice e)) (hi:P.info? e=some i) (hz:i.zero=some z)
  (hsize:i.size=size) (hby:i.bytes=bytes) (hzs:z.cells.size=size)
  (v:Value) (n:Nat) (xs:List Value) (hv:a.eval s=v) (hown:w.ownsRow base e size v n xs)
  (xv:Value) (m:Nat) (news:List Value) (hx:a.eval x=xv) (hs:Src P size tx xv m news w)
  (h63:n+m≤maxLen) (hbytes:(n+m)*bytes≤140737488355328) (hbase:base≤w.heap.size)
  (h:∀ v' w',w'.ownsRow base e size v' (n+m) (xs++news)→w.grownBy w' v.ownBlock→(v'.ownBlock=v.ownBlock∨v'.ownBlock=some w.heap.size)→K (a.put o.dst v') w') :
  if Region.wanted o (yielded ops a.tmps)=true then Oper.wp P o a w K Q else E:=by
 have hw:Region.wanted o (yielded ops a.tmps)=true:=by simp [Region.wanted,hgd]
 rw [if_pos hw]
 obtain ⟨v',w',hr,h2,h3,h4⟩:=z7q (P:=P) base t tx o.type e i z size bytes ht hi hz hsize hby hzs v n xs hown xv m news hs h63 hbytes hbase
 unfold Oper.wp execOp
 simp only [ho,resolve,invoke,builtin,Sem.run_bind,Sem.run_pure,Result.andThen_ok,List.map_toArray,List.map_cons,List.map_nil,hv,hx,hr]
 exact h v' w' h2 h3 h4
end
def svT (ts:List (List UInt8)):List Value:=ts.map fun t=>.string ⟨t.toArray⟩
theorem svT_len (ts:List (List UInt8)):(svT ts).length=ts.length*1:=by simp [svT]
theorem svT_one (ts:List (List UInt8)):∀ u∈svT ts,u.oneCell'=true:=by
 intro u hu
 simp only [svT,List.mem_map] at hu
 obtain ⟨t,_,rfl⟩:=hu
 rfl
theorem src_of_sl {w:World} {ao:Option Addr} {cap:Nat} {l:List (List UInt8)} (h:Sl w ao l) (h0:ao=none→l=[]):Src Tryz.prog 1 45 (.slice ao l.length cap) l.length (svT l) w:=by
 cases ao with
 | none =>
  have:=h0 rfl
  subst this
  exact Src.ofNil w Tryz.underlying45 cap
 | some a =>
  refine Src.ofSlice w Tryz.underlying45 a l.length cap (svT l) (svT_len l) (fun j u hu=>?_) (svT_one l)
  have hj:j<(svT l).length:=(List.getElem?_eq_some_iff.1 hu).1
  rw [svT_len] at hj
  obtain ⟨b,off,e,hc⟩:=h (by omega)
  cases e
  rw [Addr.add_lit,hc j (by omega),← hu]
  simp [svT,show j<l.length by omega]
theorem z2h {w:World} {base:Nat} {v:Value} {l:List (List UInt8)} (h:w.ownsRow base 9 1 v l.length (svT l)):∃ ao cap,v=.slice ao l.length cap∧Sl w ao l:=by
 obtain ⟨h1,h2⟩:=h
 rcases h2 with ⟨rfl,hn⟩|⟨g,cap,cur,rfl,hb,hg,hnc,hcm,hcs,htake⟩
 ·have:l=[]:=List.eq_nil_of_length_eq_zero hn
  subst this
  exact ⟨none,0,rfl,fun h=>by simp at h⟩
 ·refine ⟨some ⟨g,0,none⟩,cap,rfl,fun _=>⟨g,0,rfl,fun i hi=>?_⟩⟩
  rw [Nat.zero_add,cell_of_row w g i cur 9 (0,0) hg]
  have h3:cur[i]?=(cur.toList.take (l.length*1))[i]?:=by
   rw [List.getElem?_take,if_pos (by omega)];simp
  rw [h3,htake]
  simp [svT,hi]
theorem z6v {w w':World} {base n:Nat} {e:TypeId} {size:Nat} {v:Value} {xs:List Value} {row:Option Nat} (h:w.ownsRow base e size v n xs) (hg:w.grownBy w' row) (hne:∀ k,v.ownBlock=some k→some k≠row):w'.ownsRow base e size v n xs :=
 World.ownsRow.kept (row:=row) h hg (by
  cases hv:v.ownBlock with
  | none=>exact .inl rfl
  | some k=>exact .inr (fun e=>hne k hv e))
theorem set_grown (w:World) (a:Addr) (u:Value):w.grownBy (w.setCell a u) (some a.block) :=
 ⟨rfl,rfl,rfl,by simp [World.setCell],fun k _ hk=>Below.heap_setCell _ _ _ _ (fun e=>hk (by rw [e]))⟩
theorem z4d {w:World} {base n:Nat} {e:TypeId} {size:Nat} {v:Value} {xs:List Value} (h:w.ownsRow base e size v n xs) (a:Addr) (u:Value) (hb:a.block<base):(w.setCell a u).ownsRow base e size v n xs :=
 z6v h (set_grown w a u) (fun k hk e=>by
  have h1:=(World.ownsRow.lt h k hk).1
  have h2:k=a.block:=Option.some.inj e
  omega)
end Go.Proofs.YtibbenhplmmmiaaGreatDoor
