/-
  What expressions come to, as plain data.
  The contracts of eval.Find and eval.columnValue.
  A scope that comes in.
  The contracts of eval.columnValue, eval.operands, eval.apart and eval.stepped.
  The contract of eval.stepped.
-/
import Derived.Test.YtljkonkfeiojnaaGreatDoorMRQFun2
import Derived.Test.YtljkonkfeiojnaaGreatDoorMSQFun4
import Derived.Test.YtljkonkfeiojnaaGreatDoorMFEFit
import Derived.Test.YtljkonkfeiojnaaGreatDoorMJJCols
import Derived.SliceStrings
import Derived.Test.YtljkonkfeiojnaaGreatDoorMEEDep
import Derived.Test.YtljkonkfeiojnaaGreatDoorMQQUn
set_option maxHeartbeats 4000000
set_option maxRecDepth 20000
namespace Go.Proofs.YtljkonkfeiojnaaGreatDoor
def z5d (t n:List UInt8):List (List UInt8 × List UInt8)→Nat→Nat→Nat→Nat × Nat
 | [],_,p,c=>(p,c)
 | x::r,i,p,c=>if x.2=n∧(t=[]∨x.1=t) then z5d t n r (i+1) i (c+1) else z5d t n r (i+1) p c
def z5a (ts ns:List (List UInt8)) (t n:List UInt8):Nat × Int :=
 if ts.length=ns.length then (if (z5d t n (ts.zip ns) 0 0 0).2=1 then ((z5d t n (ts.zip ns) 0 0 0).1,0) else (0,34)) else (0,1)
theorem findS_at (t n:List UInt8):∀ l i p c,((z5d t n l i p c).1=p∧(z5d t n l i p c).2=c)∨(c<(z5d t n l i p c).2∧∃ j,∃ h:j<l.length,(z5d t n l i p c).1=i+j∧(l[j]).2=n):=by
 intro l
 induction l with
 | nil=>intro i p c;exact .inl ⟨rfl,rfl⟩
 | cons x r ih =>
  intro i p c
  unfold z5d
  split
  ·rename_i hx
   rcases ih (i+1) i (c+1) with ⟨h1,h2⟩|⟨h1,j,hj,h2,h3⟩
   ·exact .inr ⟨by omega,0,by simp,by omega,hx.1⟩
   ·exact .inr ⟨by omega,j+1,by simp;omega,by omega,by simpa using h3⟩
  ·rcases ih (i+1) p c with h|⟨h1,j,hj,h2,h3⟩
   ·exact .inl h
   ·exact .inr ⟨h1,j+1,by simp;omega,by omega,by simpa using h3⟩
theorem findR_at {ts ns:List (List UInt8)} {t n:List UInt8} (h:(z5a ts ns t n).2=0):∃ hl:(z5a ts ns t n).1<ns.length,ns[(z5a ts ns t n).1]=n:=by
 unfold z5a at h ⊢
 by_cases h1:ts.length=ns.length
 ·simp only [if_pos h1] at h ⊢
  by_cases h2:(z5d t n (ts.zip ns) 0 0 0).2=1
  ·simp only [if_pos h2] at h ⊢
   rcases findS_at t n (ts.zip ns) 0 0 0 with ⟨_,h3⟩|⟨_,j,hj,h3,h4⟩
   ·omega
   ·have hz:(ts.zip ns).length=ns.length:=by rw [List.length_zip];omega
    have e:(z5d t n (ts.zip ns) 0 0 0).1=j:=by omega
    refine ⟨by omega,?_⟩
    have h5:((ts.zip ns)[j]).2=ns[j]'(by omega):=by rw [List.getElem_zip]
    rw [h5] at h4
    simp only [e]
    exact h4
  ·rw [if_neg h2] at h;simp at h
 ·rw [if_neg h1] at h;simp at h
def colR (x:Nd) (ts ns:List (List UInt8)) (row:List Va):Va × Int :=
 if (z5a ts ns x.t x.n).2=0 then (row.getD (z5a ts ns x.t x.n).1 nul,0) else (nul,(z5a ts ns x.t x.n).2)
def stpR (x:Nd) (of:List Va) (ts ns:List (List UInt8)) (row:List Va):Va × Int :=
 if x.o=1 then (x.v,0) else if x.o=2 then colR x ts ns row else if x.o=19 then funR x.n of else if of.length=1 then unR x.o (of.getD 0 nul) else binR x.o (of.getD 0 nul) (of.getD 1 nul)
def evL (ts ns:List (List UInt8)) (row:List Va):List Nd→List Va→Va × Int
 | [],st=>(st.headD nul,0)
 | x::l,st=>if (stpR x (st.drop (st.length - (opsN x).toNat)) ts ns row).2=0 then evL ts ns row l (st.take (st.length - (opsN x).toNat)++[(stpR x (st.drop (st.length - (opsN x).toNat)) ts ns row).1]) else (nul,(stpR x (st.drop (st.length - (opsN x).toNat)) ts ns row).2)
def evR (l:List Nd) (ts ns:List (List UInt8)) (row:List Va):Va × Int :=
 if 0<depN mayN l∧ts.length=row.length∧ns.length=row.length∧row.all vr=true then evL ts ns row l [] else (nul,1)
def gv (v:Va):Prop:=vr v=true∧vin v
theorem z3a:gv nul:=⟨vr_nul,⟨by decide,by decide⟩,⟨by decide,by decide⟩⟩
theorem gv_of {v:Va} (h:vr v=true) (hn:v.k=1∨v.k=2→-9223372036854775808≤v.n∧v.n≤9223372036854775807):gv v:=by
 have hok:=(z3u v).1 h
 unfold vok at hok
 refine ⟨h,⟨?_,?_⟩,⟨?_,?_⟩⟩
 all_goals rcases hok with h|h|h|h|h|h
 all_goals first|omega|(have:=hn (by omega);omega)
theorem nzI (z:Int):-9223372036854775808≤nz z∧nz z≤9223372036854775807:=by
 unfold nz
 split
 ·rename_i h;exact (z5s z).1 h
 ·omega
def numI (r:Va × Int):Prop:=r.1.k=1∨r.1.k=2→-9223372036854775808≤r.1.n∧r.1.n≤9223372036854775807
theorem z3e (e:Int):numI (nul,e):=fun h=>by simp [nul] at h
theorem z2s (z e:Int) (h:-9223372036854775808≤z∧z≤9223372036854775807):numI (z1e z e):=by
 unfold z1e
 split
 ·exact fun _=>h
 ·exact z3e e
theorem numI_dec (z s:Int):numI (decR z s):=by
 unfold decR z5g
 split
 ·exact fun _=>nzI z
 ·exact z3e _
theorem numI_pt (x y:Int) (e:Int):numI (vP x y,e):=fun h=>by simp [vP] at h
theorem numI_bool (b:Bool) (e:Int):numI (vB b,e):=fun h=>by simp [vB] at h
theorem numI_of (t e:Int):numI (vO t,e):=fun h=>by
 unfold vO at h
 split at h
 ·simp at h
 ·simp [nul] at h
theorem z7u (op c:Int):numI (cmpR op c):=by
 unfold cmpR
 repeat' split
 all_goals first|exact numI_bool _ _|exact z3e _
theorem tdivI (a b:Int) (h0:-9223372036854775808≤a) (h1:a≤9223372036854775807) (hb:b≠0) (hb1:b≠-1):-9223372036854775808≤a.tdiv b∧a.tdiv b≤9223372036854775807:=by
 have h:(a.tdiv b).natAbs=a.natAbs / b.natAbs:=Int.natAbs_tdiv a b
 have h2:a.natAbs / b.natAbs≤a.natAbs:=Nat.div_le_self _ _
 by_cases hm:a=-9223372036854775808
 ·subst hm
  by_cases hb2:b=1
  ·subst hb2;simp
  ·have h3:2≤b.natAbs:=by omega
   have h4:(-9223372036854775808:Int).natAbs / b.natAbs≤(-9223372036854775808:Int).natAbs / 2:=Nat.div_le_div_left h3 (by decide)
   have h5:(-9223372036854775808:Int).natAbs / 2=4611686018427387904:=by decide
   omega
 ·omega
theorem numI_ints (op a b:Int) (ha:-9223372036854775808≤a∧a≤9223372036854775807):numI (intsR op a b):=by
 unfold intsR
 split
 ·exact z2s _ _ (nzI _)
 split
 ·exact z2s _ _ (nzI _)
 split
 ·exact z2s _ _ (nzI _)
 split
 ·unfold quoR
  split
  ·exact z2s _ _ (by simp)
  split
  ·exact z2s _ _ (nzI _)
  ·exact z2s _ _ (tdivI a b ha.1 ha.2 (by assumption) (by assumption))
 split
 ·unfold remR
  split
  ·exact z2s _ _ (by simp)
  ·refine z2s _ _ ?_
   have h:=Int.natAbs_tmod a b
   have h2:a.natAbs%b.natAbs≤a.natAbs:=Nat.mod_le _ _
   have h3:a.tmod b=a - b*a.tdiv b:=by have:=Int.mul_tdiv_add_tmod a b;omega
   have h4:0≤a→0≤a.tmod b:=fun h=>Int.tmod_nonneg b h
   show -9223372036854775808≤a.tmod b∧a.tmod b≤9223372036854775807
   have h5:a.natAbs≤9223372036854775808:=by omega
   rcases Int.natAbs_eq (a.tmod b) with h6|h6
   ·by_cases h0:0≤a
    ·omega
    ·by_cases hm:a=-9223372036854775808
     ·have h7:a.tmod b≤0:=by
       have:=Int.tmod_nonneg b (a:=-a) (by omega)
       rw [Int.neg_tmod] at this
       omega
      omega
     ·omega
   ·omega
 ·exact z7u _ _
theorem numI_nums (op:Int) (a b:Va):numI (numsR op a b):=by
 unfold numsR
 repeat' split
 all_goals first|exact numI_dec _ _|exact z7u _ _|exact z3e _
theorem numI_pts (op:Int) (a b:Va):numI (ptsR op a b):=by
 unfold ptsR ptR z0z
 repeat' split
 all_goals first|exact numI_pt _ _ _|exact z7u _ _|exact z3e _
theorem numI_bin (op:Int) (a b:Va) (ia:vin a):numI (binR op a b):=by
 unfold binR
 split
 ·exact z3e _
 split
 ·unfold truR
  repeat' split
  all_goals first|exact numI_of _ _|exact z3e _
 split
 ·exact z3e _
 split
 ·exact numI_ints _ _ _ ia.1
 split
 ·exact numI_nums _ _ _
 split
 ·exact numI_pts _ _ _
 split
 ·unfold txtR
  repeat' split
  all_goals first|exact z3e _|exact z7u _ _|exact fun h=>by simp [vT] at h
 split
 ·exact z7u _ _
 ·exact z3e _
theorem numI_neg (a:Va):numI (negR a):=by
 unfold negR
 repeat' split
 all_goals first|exact z3e _|exact numI_dec _ _|exact numI_pt _ _ _|exact z2s _ _ (nzI _)
theorem numI_un (op:Int) (a:Va):numI (unR op a):=by
 unfold unR notR
 repeat' split
 all_goals first|exact z3e _|exact numI_of _ _|exact numI_bool _ _|exact numI_neg _
theorem gv_bin (op:Int) (a b:Va) (ia:vin a):gv (binR op a b).1:=gv_of (ok_bin op a b).1 (numI_bin op a b ia)
theorem gv_un (op:Int) (a:Va):gv (unR op a).1:=gv_of (ok_un op a).1 (numI_un op a)
theorem gv_firstK (l:List Va) (h:∀ x∈l,gv x):gv (z7f l):=by
 induction l with
 | nil=>exact z3a
 | cons x l ih =>
  unfold z7f
  split
  ·exact ih fun y hy=>h y (by simp [hy])
  ·exact h x (by simp)
theorem gv_int (z:Int) (h:-9223372036854775808≤z∧z≤9223372036854775807):gv (vI z):=gv_of (ok_int z).1 fun _=>h
theorem nrm_in (x y:Int) (hx:-1048576≤x∧x≤1048576) (hy:-1048576≤y∧y≤1048576):-9223372036854775808≤Ga.nrm x y∧Ga.nrm x y≤9223372036854775807:=by
 unfold Ga.nrm
 split
 ·have sq:∀ z:Int,-1048576≤z∧z≤1048576→0≤z*z∧z*z≤1099511627776:=by
   intro z hz
   have e:z*z=((z.natAbs*z.natAbs:Nat):Int):=by rw [Int.natCast_mul,Int.natAbs_mul_self']
   have h1:z.natAbs≤1048576:=by omega
   have h2:z.natAbs*z.natAbs≤1048576*1048576:=Nat.mul_le_mul h1 h1
   rw [e]
   omega
  have h1:=sq x hx
  have h2:=sq y hy
  omega
 ·omega
theorem gv_fun (nm:List UInt8) (l:List Va) (h:∀ x∈l,gv x):gv (funR nm l).1:=by
 unfold funR
 split
 ·exact z3a
 split
 ·exact z3a
 split
 ·exact gv_firstK l h
 split
 ·exact z3a
 match l,h with
 | [],_=>exact z3a
 | [a],h =>
  have ga:=h a (by simp)
  have hok:=(z3u a).1 ga.1
  unfold vok at hok
  show gv (cal1 nm a).1
  unfold cal1
  split
  ·split
   ·exact gv_int _ (by omega)
   ·exact z3a
  split
  ·split
   ·unfold absR
    split
    ·rename_i hn _
     have:=ok_un 3 a
     have e:unR 3 a=negR a:=by unfold unR;rw [if_neg (by simp [ga.1]),if_neg (by decide),if_neg (by decide)]
     rw [e] at this
     exact gv_of this.1 (numI_neg a)
    ·exact ga
   ·exact z3a
  split
  ·split
   ·exact gv_int _ (nrm_in _ _ (by omega) (by omega))
   ·exact z3a
  split
  ·split
   ·exact gv_int _ (by omega)
   ·exact z3a
  ·split
   ·exact gv_int _ (by omega)
   ·exact z3a
 | [a,b],h =>
  show gv (cal2 nm a b).1
  unfold cal2
  split
  ·split
   ·unfold ptAtR
    split
    ·rename_i h2
     exact gv_of (ok_pt _ _ h2).1 (numI_pt _ _ 0)
    ·exact z3a
   ·exact z3a
  ·split
   ·unfold rndR z5g
    split
    ·split
     ·rename_i h1 h2 h3
      obtain ⟨_,hr,_,_,hu,hs⟩:=rescale_ok _ _ _ h3
      have hr':=(z1f _).1 hr
      refine gv_of (vr_of ?_) (fun _=>?_)
      ·rw [hs];simp [vok,vD];omega
      ·show _≤rU _ _ _∧rU _ _ _≤_
       unfold rU
       split
       ·exact nzI _
       ·omega
     ·exact z3a
    ·exact z3a
   ·exact z3a
 | _::_::_::_,_=>exact z3a
theorem mem_drop_gv {st:List Va} {n:Nat} (h:∀ x∈st,gv x):∀ x∈st.drop n,gv x:=fun x hx=>h x (List.mem_of_mem_drop hx)
theorem getD_gv {l:List Va} (h:∀ x∈l,gv x) (i:Nat):gv (l.getD i nul):=by
 rw [List.getD_eq_getElem?_getD]
 cases hi:l[i]? with
 | none=>exact z3a
 | some v=>exact h v (List.mem_of_getElem? hi)
theorem gv_stp (x:Nd) (of:List Va) (ts ns:List (List UInt8)) (row:List Va) (h1:x.o=1→gv x.v) (h2:∀ v∈of,gv v) (h3:∀ v∈row,gv v):gv (stpR x of ts ns row).1:=by
 unfold stpR
 split
 ·exact h1 (by assumption)
 split
 ·unfold colR
  split
  ·exact getD_gv h3 _
  ·exact z3a
 split
 ·exact gv_fun _ _ h2
 split
 ·exact gv_un _ _
 ·exact gv_bin _ _ _ (getD_gv h2 0).2
theorem gv_take {st:List Va} {n:Nat} {v:Va} (h:∀ x∈st,gv x) (hv:gv v):∀ x∈st.take n++[v],gv x:=by
 intro x hx
 rcases List.mem_append.1 hx with hx|hx
 ·exact h x (List.mem_of_mem_take hx)
 ·obtain rfl:x=v:=by simpa using hx
  exact hv
end Go.Proofs.YtljkonkfeiojnaaGreatDoor

namespace Go.Proofs.YtljkonkfeiojnaaGreatDoor
open Go.RowKit Go.Shelf
attribute [local go_sem] z0f z0b z0c z0e z0m z0k z0h z0d z0g
def Sl (w:World) (ao:Option Addr) (l:List (List UInt8)):Prop :=
 0<l.length→∃ b off,ao=some ⟨b,off,none⟩∧∀ i (h:i<l.length),w.cell? ⟨b,off+i,none⟩=some (.string ⟨l[i].toArray⟩)
theorem Sl.later {w w':World} {ao:Option Addr} {l:List (List UInt8)} (h:Sl w ao l) (hb:Below w.heap.size w w'):Sl w' ao l:=by
 intro hp
 obtain ⟨b,off,e,hc⟩:=h hp
 exact ⟨b,off,e,fun i hi=>(hb.cell (p:=⟨b,off+i,none⟩) (World.block_lt_of_cell? w _ (hc i hi))).trans (hc i hi)⟩
abbrev scv (ta na:Option Addr) (n m tc nc:Nat):Value:=.agg #[.slice ta n tc,.slice na m nc]
theorem find_any (ta na:Option Addr) (tc nc:Nat) (ts ns:List (List UInt8)) (t n:List UInt8) (w:World) (ht:Sl w ta ts) (hn:Sl w na ns) (hl:ns.length≤140737488351232) :
  Calls Tryz.prog 56 #[scv ta na ts.length ns.length tc nc,.string ⟨t.toArray⟩,.string ⟨n.toArray⟩] w fun e w'=>e=.returned (.tuple #[.int .i64 ((z5a ts ns t n).1:Int),.int .i64 (z5a ts ns t n).2])∧Below w.heap.size w w':=by
 unfold z5a
 by_cases hne:ts.length=ns.length
 case neg =>
  rw [if_neg hne]
  clear ht hn hl
  generalize ts.length=p at *
  generalize ns.length=q at *
  have h1:¬ (p:Int)=(q:Int):=by omega
  go_enter Tryz.func56,Tryz.ntmps56
  go_wp2
  refine bodyPost_ret_by (v:=.tuple #[.int .i64 0,.int .i64 1]) ?_ rfl ⟨rfl,(Below.refl _ _).alloc (Nat.le_refl _) _⟩
  simp [results,Tryz.results56,go_sem]
 rw [if_pos hne]
 obtain ⟨R,hR⟩:∃ R,R=z5d t n (ts.zip ns) 0 0 0:=⟨_,rfl⟩
 rw [← hR]
 have HR:Hid (z5d t n ((ts.zip ns).drop 0) 0 0 0=R):=hR.symm
 clear hR
 obtain ⟨m,hm⟩:∃ m,ns.length=m:=⟨_,rfl⟩
 have HM:Hid (ns.length=m):=hm
 have HT:Hid (ts.length=m):=by show _=_;omega
 rw [show ts.length=m from HT.out,hm]
 rw [hm] at hl
 have BX:Cbox (w.alloc (.cells #[.slice ta m tc,.slice na m nc] 80)) w.heap.size #[.slice ta m tc,.slice na m nc] 80:=Cbox.new w _ _
 have A1:Below w.heap.size w (w.alloc (.cells #[.slice ta m tc,.slice na m nc] 80)):=(Below.refl _ _).alloc (Nat.le_refl _) _
 clear hm hne
 obtain ⟨TB,hTB⟩:∃ TB:ByteArray,TB=⟨t.toArray⟩:=⟨_,rfl⟩
 obtain ⟨NB,hNB⟩:∃ NB:ByteArray,NB=⟨n.toArray⟩:=⟨_,rfl⟩
 have HTB:Hid (TB.toList=t):=by show _=_;rw [hTB,ByteArray.toList_eq]
 have HNB:Hid (NB.toList=n):=by show _=_;rw [hNB,ByteArray.toList_eq]
 rw [← hTB,← hNB]
 clear hTB hNB
 go_enter Tryz.func56,Tryz.ntmps56
 go_wp2
 go_loopw [8,9,22] (fun r8 r9 r22 wr=>∃ k p c:Nat,r8=.int .i64 (p:Int)∧r9=.int .i64 (c:Int)∧r22=.int .i64 (k:Int)∧k≤m∧c≤k∧wr=(w.alloc (.cells #[.slice ta m tc,.slice na m nc] 80))∧Hid (z5d t n ((ts.zip ns).drop k) k p c=R)) (fun _ _ r _=>m - (intOf r).toNat)
 case atStart=>exact ⟨0,0,0,rfl,rfl,rfl,Nat.zero_le _,Nat.zero_le _,rfl,HR⟩
 case round =>
  obtain ⟨k,p,c,rfl,rfl,rfl,hk,hck,rfl,hH⟩:=hrel
  have z0:=BX.at 0
  have z1:=BX.at 1
  have zl:=BX.lt
  by_cases hlt:k<m
  ·have hlt':(k:Int)<(m:Int):=by omega
   have k0:(0:Int)≤(k:Int):=by omega
   have hkn:k<ns.length:=by rw [HM.out];exact hlt
   have hkt:k<ts.length:=by rw [HT.out];exact hlt
   obtain ⟨nb,noff,rfl,hcn⟩:=(hn.later A1) (by omega)
   obtain ⟨tb,toff,rfl,hct⟩:=(ht.later A1) (by omega)
   have cn:=hcn k hkn
   have ct:=hct k hkt
   have gn:=World.block_lt_of_cell? _ _ cn
   have gt:=World.block_lt_of_cell? _ _ ct
   have hzl:k<(ts.zip ns).length:=by rw [List.length_zip];omega
   have hdr:(ts.zip ns).drop k=(ts[k],ns[k])::(ts.zip ns).drop (k+1):=by rw [List.drop_eq_getElem_cons hzl,List.getElem_zip]
   have hst:=hH.out
   rw [hdr] at hst
   unfold z5d at hst
   obtain ⟨SN,hSN⟩:∃ SN:ByteArray,SN=⟨ns[k].toArray⟩:=⟨_,rfl⟩
   obtain ⟨ST,hST⟩:∃ ST:ByteArray,ST=⟨ts[k].toArray⟩:=⟨_,rfl⟩
   have e1:SN.toList=ns[k]:=by rw [hSN,ByteArray.toList_eq]
   have e2:ST.toList=ts[k]:=by rw [hST,ByteArray.toList_eq]
   rw [← hSN] at cn
   rw [← hST] at ct
   rw [← e1,← e2,← HNB.out,← HTB.out] at hst
   simp only at gn gt
   have HS:Hid ((if SN.toList=NB.toList∧(TB.toList=[]∨ST.toList=TB.toList) then z5d TB.toList NB.toList ((ts.zip ns).drop (k+1)) (k+1) k (c+1) else z5d TB.toList NB.toList ((ts.zip ns).drop (k+1)) (k+1) p c)=R):=hst
   have HB:Hid (Below w.heap.size w (w.alloc (.cells #[.slice (some ⟨tb,toff,none⟩) m tc,.slice (some ⟨nb,noff,none⟩) m nc] 80))):=A1
   clear hcn hct hdr hst hH hSN hST e1 e2 HR A1 BX hn ht hzl
   by_cases q1:SN.toList=NB.toList
   ·have q1':(SN.toList==NB.toList)=true:=by rw [beq_iff_eq];exact q1
    by_cases q2:TB.toList=[]
    ·have q2':TB.toList.isEmpty=true:=by rw [List.isEmpty_iff];exact q2
     have HF:Hid (z5d t n ((ts.zip ns).drop (k+1)) (k+1) k (c+1)=R):=by have:=HS.out;rw [if_pos ⟨q1,.inl q2⟩,HTB.out,HNB.out] at this;exact this
     clear q1 q2 HS
     go_wp2
     exact ⟨⟨k+1,k,c+1,rfl,by simp,by simp,by omega,by omega,(by first|trivial|rfl),HF⟩,by simp [intOf];omega⟩
    ·have q2':TB.toList.isEmpty=false:=by rw [← Bool.not_eq_true,List.isEmpty_iff];exact q2
     by_cases q3:ST.toList=TB.toList
     ·have q3':(ST.toList==TB.toList)=true:=by rw [beq_iff_eq];exact q3
      have HF:Hid (z5d t n ((ts.zip ns).drop (k+1)) (k+1) k (c+1)=R):=by have:=HS.out;rw [if_pos ⟨q1,.inr q3⟩,HTB.out,HNB.out] at this;exact this
      clear q1 q2 q3 HS
      go_wp2
      exact ⟨⟨k+1,k,c+1,rfl,by simp,by simp,by omega,by omega,(by first|trivial|rfl),HF⟩,by simp [intOf];omega⟩
     ·have q3':(ST.toList==TB.toList)=false:=by rw [beq_eq_false_iff_ne];exact q3
      have HF:Hid (z5d t n ((ts.zip ns).drop (k+1)) (k+1) p c=R):=by have:=HS.out;rw [if_neg (fun h=>by rcases h.2 with h|h;exact q2 h;exact q3 h),HTB.out,HNB.out] at this;exact this
      clear q1 q2 q3 HS
      go_wp2
      exact ⟨⟨k+1,p,c,rfl,rfl,by simp,by omega,by omega,(by first|trivial|rfl),HF⟩,by simp [intOf];omega⟩
   ·have q1':(SN.toList==NB.toList)=false:=by rw [beq_eq_false_iff_ne];exact q1
    have HF:Hid (z5d t n ((ts.zip ns).drop (k+1)) (k+1) p c=R):=by have:=HS.out;rw [if_neg (fun h=>q1 h.1),HTB.out,HNB.out] at this;exact this
    clear q1 HS
    go_wp2
    exact ⟨⟨k+1,p,c,rfl,rfl,by simp,by omega,by omega,(by first|trivial|rfl),HF⟩,by simp [intOf];omega⟩
  ·have hlt':¬ (k:Int)<(m:Int):=by omega
   have hRR:(p,c)=R:=by
    have:=hH.out
    rw [List.drop_eq_nil_of_le (by rw [List.length_zip,HM.out,HT.out];omega)] at this
    exact this
   subst hRR
   have HB:Hid (Below w.heap.size w (w.alloc (.cells #[.slice ta m tc,.slice na m nc] 80))):=A1
   clear hH HR A1 BX hn ht
   by_cases hc1:c=1
   ·subst hc1
    go_wp2
    refine bodyPost_ret_by (v:=.tuple #[.int .i64 (p:Int),.int .i64 0]) ?_ rfl ⟨rfl,HB.out⟩
    simp [results,Tryz.results56,go_sem]
   ·have hc1':¬ (c:Int)=1:=by omega
    go_wp2
    refine bodyPost_ret_by (v:=.tuple #[.int .i64 0,.int .i64 34]) ?_ rfl ⟨rfl,HB.out⟩
    simp [results,Tryz.results56,go_sem]
end Go.Proofs.YtljkonkfeiojnaaGreatDoor

namespace Go.Proofs.YtljkonkfeiojnaaGreatDoor
open Go.ChangeShapes Go.WideShapes Go.ChangeAt Go.WideMaps Go.WideElems Go.RowKit Go.Shelf Go.Lib
end Go.Proofs.YtljkonkfeiojnaaGreatDoor

namespace Go.Proofs.YtljkonkfeiojnaaGreatDoor
open Go.RowKit Go.Shelf
attribute [local go_sem] z0f z0b z0c z0e z0m z0k z0h z0d z0g
theorem z4w (w:World) (x:Nd) (a b:Value):∃ w0,w0=((w.alloc (.cells (ncs x) 74)).alloc (.cells #[a,b] 80)).alloc (.cells #[.int .i64 0,.int .i64 0,.int .i64 0,.string ⟨#[]⟩] 44) ∧
  Cbox w0 w.heap.size (ncs x) 74∧Cbox w0 (w.heap.size+1) #[a,b] 80∧Box w0 (w.heap.size+1+1) nul∧Below w.heap.size w w0:=by
 have h1:=Cbox.new w (ncs x) 74
 have h2:=Cbox.new (w.alloc (.cells (ncs x) 74)) #[a,b] 80
 have h3:=Box.new ((w.alloc (.cells (ncs x) 74)).alloc (.cells #[a,b] 80)) 0 0 0 []
 simp only [World.size_alloc] at h2 h3
 refine ⟨_,rfl,(h1.later ((Below.refl _ _).alloc (Nat.le_refl _) _)).later ((Below.refl _ _).alloc (Nat.le_refl _) _),h2.later ((Below.refl _ _).alloc (Nat.le_refl _) _),h3,?_⟩
 exact (((Below.refl _ w).alloc (Nat.le_refl _) _).alloc (by simp) _).alloc (by simp;omega) _
theorem z1s {w w':World} {p q:Nat} (h:Below p w w') (hp:p≤q) (a b c:Int) (s:ByteArray):Below p w ((((w'.setCell ⟨q,0,none⟩ (.int .i64 a)).setCell ⟨q,1,none⟩ (.int .i64 b)).setCell ⟨q,2,none⟩ (.int .i64 c)).setCell ⟨q,3,none⟩ (.string s)) :=
 (h.setCell (p:=⟨q,0,none⟩) hp _ |>.setCell (p:=⟨q,1,none⟩) hp _ |>.setCell (p:=⟨q,2,none⟩) hp _ |>.setCell (p:=⟨q,3,none⟩) hp _)
theorem colv_any (x:Nd) (ta na ro:Option Addr) (tc nc rc:Nat) (ts ns:List (List UInt8)) (row:List Va) (w:World) (ht:Sl w ta ts) (hn:Sl w na ns) (hr:Vs w ro row) (hlen:ns.length=row.length) (hl:row.length≤140737488351232) :
  Calls Tryz.prog 81 #[ndv x,scv ta na ts.length ns.length tc nc,.slice ro row.length rc] w fun e w'=>e=.returned (rs (colR x ts ns row))∧Below w.heap.size w w':=by
 have F:Hid (∀ W,Below w.heap.size w W→Calls Tryz.prog 56 #[scv ta na ts.length ns.length tc nc,.string ⟨x.t.toArray⟩,.string ⟨x.n.toArray⟩] W fun e w'=>e=.returned (.tuple #[.int .i64 ((z5a ts ns x.t x.n).1:Int),.int .i64 (z5a ts ns x.t x.n).2])∧Below W.heap.size W w'):=fun W h=>find_any ta na tc nc ts ns x.t x.n W (ht.later h) (hn.later h) (by omega)
 have AT:=fun h=>findR_at (ts:=ts) (ns:=ns) (t:=x.t) (n:=x.n) h
 unfold colR
 generalize z5a ts ns x.t x.n=f at *
 obtain ⟨fp,fe⟩:=f
 simp only at F AT ⊢
 have AL:Hid (fe=0→fp<row.length):=fun h=>by
  obtain ⟨h1,_⟩:=AT h
  omega
 clear AT ht hn hlen
 obtain ⟨xo,xt,xn,xv,xa⟩:=x
 generalize ts.length=p at *
 generalize ns.length=q at *
 obtain ⟨w0,hw0,bn,bs,br0,Bw⟩:=z4w w ⟨xo,xt,xn,xv,xa⟩ (.slice ta p tc) (.slice na q nc)
 have n1:=bn.at 1
 have n2:=bn.at 2
 have ln:=bn.lt
 have s0:=bs.at 0
 have s1:=bs.at 1
 have ls:=bs.lt
 by_cases h0:fe=0
 ·subst h0
  rw [if_pos rfl]
  have hpr:fp<row.length:=AL.out rfl
  obtain ⟨b,off,rfl,hc⟩:=hr (by omega)
  have hc':=hc fp hpr
  have e:row.getD fp nul=row[fp]:=by rw [List.getD_eq_getElem?_getD,List.getElem?_eq_getElem hpr];rfl
  rw [e]
  generalize row[fp]=v at *
  obtain ⟨vk,vn,vm,vb⟩:=v
  have HC:Hid (At4 w b (off+fp*4) ⟨vk,vn,vm,vb⟩):=hc'
  have HB:Hid (Below w.heap.size w w0):=Bw
  have HX:Hid (Box w0 (w.heap.size+1+1) nul):=br0
  have hpr':(fp:Int)<(row.length:Int):=by omega
  have hp0:(0:Int)≤(fp:Int):=by omega
  clear hc hc' hr AL e bn bs br0 Bw
  generalize row.length=m at *
  go_enter Tryz.func81,Tryz.ntmps81
  go_upto_region 1 with fail
  rw [← hw0]
  clear hw0
  go_wp2_with fail
  refine (F.out _ HB.out).mono ?_
  rintro e w1 ⟨rfl,b1⟩
  have B1:=z0a HB.out b1
  have br:=HX.out.later b1
  obtain ⟨c0,c1,c2,c3⟩:=HC.out.later B1
  have hg:=(HC.out.later B1).lt
  obtain ⟨r0,r1,r2,r3⟩:=br.at4
  dsimp only [nul] at r0 r1 r2 r3
  simp only [Nat.zero_add] at r1 r2 r3
  have f0:=br.free 0
  have f1:=br.free 1
  have f2:=br.free 2
  have f3:=br.free 3
  have lt1:=br.lt
  clear n1 n2 ln s0 s1 ls F
  go_wp2
  refine bodyPost_ret_by (v:=.tuple #[va vk vn vm ⟨vb.toArray⟩,.int .i64 0]) ?_ rfl ⟨rfl,z1s B1 (by omega) _ _ _ _⟩
  simp [results,Tryz.results81,go_sem,r0,r1,r2,r3]
 ·rw [if_neg h0]
  have h0':¬ fe=0:=h0
  have HB:Hid (Below w.heap.size w w0):=Bw
  have HX:Hid (Box w0 (w.heap.size+1+1) nul):=br0
  clear hr AL bn bs br0 Bw
  generalize row.length=m at *
  go_enter Tryz.func81,Tryz.ntmps81
  go_upto_region 1 with fail
  rw [← hw0]
  clear hw0
  go_wp2_with fail
  refine (F.out _ HB.out).mono ?_
  rintro e w1 ⟨rfl,b1⟩
  have B1:=z0a HB.out b1
  have br:=HX.out.later b1
  obtain ⟨r0,r1,r2,r3⟩:=br.at4
  dsimp only [nul] at r0 r1 r2 r3
  simp only [Nat.zero_add] at r1 r2 r3
  have f0:=br.free 0
  have f1:=br.free 1
  have f2:=br.free 2
  have f3:=br.free 3
  have lt1:=br.lt
  clear n1 n2 ln s0 s1 ls F
  go_wp2
  refine bodyPost_ret_by (v:=.tuple #[va 0 0 0 ⟨#[]⟩,.int .i64 fe]) ?_ rfl ⟨rfl,z1s B1 (by omega) _ _ _ _⟩
  simp [results,Tryz.results81,go_sem,r0,r1,r2,r3]
theorem eops_any (x:Nd) (w:World):Calls Tryz.prog 60 #[ndv x] w fun e w'=>e=.returned (.int .i64 (opsN x))∧Grew w w':=by
 obtain ⟨o,t,n,v,a⟩:=x
 unfold opsN
 simp only
 by_cases h1:o=19
 ·subst h1
  rw [if_pos rfl]
  go_enter Tryz.func60,Tryz.ntmps60
  go_wp2
  go_ret
  exact ⟨rfl,(Grew.refl _).alloc _⟩
 rw [if_neg h1]
 have e1:(o==19)=false:=by rw [beq_eq_false_iff_ne];exact h1
 by_cases h2:6≤o
 ·rw [if_pos h2]
  go_enter Tryz.func60,Tryz.ntmps60
  go_wp2
  go_ret
  exact ⟨rfl,(Grew.refl _).alloc _⟩
 rw [if_neg h2]
 by_cases h3:3≤o
 ·rw [if_pos h3]
  go_enter Tryz.func60,Tryz.ntmps60
  go_wp2
  go_ret
  exact ⟨rfl,(Grew.refl _).alloc _⟩
 ·rw [if_neg h3]
  go_enter Tryz.func60,Tryz.ntmps60
  go_wp2
  go_ret
  exact ⟨rfl,(Grew.refl _).alloc _⟩
theorem apart_any (v:Va) (w:World) (hb:v.b.length≤140737488351232):Calls Tryz.prog 62 #[vv v] w fun e w'=>e=.returned (vv v)∧Below w.heap.size w w':=by
 obtain ⟨vk,vn,vm,vb⟩:=v
 have C:=fun W=>z4a ⟨vb.toArray⟩ W hb
 obtain ⟨w0,hw0,bx,br0,Bw⟩:=z4d w ⟨vk,vn,vm,vb⟩
 dsimp only at hw0
 obtain ⟨c0,c1,c2,c3⟩:=bx.at4
 have lt0:=bx.lt
 dsimp only at c0 c1 c2 c3
 simp only [Nat.zero_add] at c1 c2 c3
 go_enter Tryz.func62,Tryz.ntmps62
 go_upto_region 1 with fail
 rw [← hw0]
 clear hw0
 have HB:Hid (Below w.heap.size w w0):=Bw
 have HX:Hid (Box w0 (w.heap.size+1) nul):=br0
 have HV:Hid (Box w0 w.heap.size ⟨vk,vn,vm,vb⟩):=bx
 go_wp2_with fail
 refine (C _).mono ?_
 rintro e w1 ⟨rfl,b1⟩
 have B1:=z0a HB.out b1
 have br:=HX.out.later b1
 have bv:=HV.out.later b1
 obtain ⟨r0,r1,r2,r3⟩:=br.at4
 obtain ⟨d0,d1,d2,d3⟩:=bv.at4
 dsimp only [nul] at r0 r1 r2 r3 d0 d1 d2 d3
 simp only [Nat.zero_add] at r1 r2 r3 d1 d2 d3
 have f0:=br.free 0
 have f1:=br.free 1
 have f2:=br.free 2
 have f3:=br.free 3
 have g3:=bv.free 3
 have lt1:=br.lt
 have lt2:=bv.lt
 clear c0 c1 c2 c3 lt0 C
 go_wp2
 refine bodyPost_ret_by (v:=va vk vn vm ⟨vb.toArray⟩) ?_ rfl ⟨rfl,?_⟩
 ·simp [results,Tryz.results62,go_sem,r0,r1,r2,r3]
 ·exact z1s (B1.setCell (p:=⟨w.heap.size,3,none⟩) (Nat.le_refl _) _) (by omega) _ _ _ _
end Go.Proofs.YtljkonkfeiojnaaGreatDoor

namespace Go.Proofs.YtljkonkfeiojnaaGreatDoor
open Go.RowKit Go.Shelf
attribute [local go_sem] z0f z0b z0c z0e z0m z0k z0h z0d z0g z2n z1u z3k z1v z2m z2q z3h z2p z3g z2d z2r
theorem stp_val (xt xn vb:List UInt8) (vk vn vm xa:Int) (wo ta na ro:Option Addr) (wc tc nc rc p q m:Nat) (n:Nat) (w:World)  :
  Calls Tryz.prog 61 #[.agg #[.int .i64 1,.string ⟨xt.toArray⟩,.string ⟨xn.toArray⟩,.int .i64 vk,.int .i64 vn,.int .i64 vm,.string ⟨vb.toArray⟩,.int .i64 xa],.slice wo n wc,scv ta na p q tc nc,.slice ro m rc] w fun e w'=>e=.returned (.tuple #[va vk vn vm ⟨vb.toArray⟩,.int .i64 0])∧Below w.heap.size w w':=by
 obtain ⟨w0,hw0,bn,bs,br0,Bw⟩:=z4w w ⟨1,xt,xn,⟨vk,vn,vm,vb⟩,xa⟩ (.slice ta p tc) (.slice na q nc)
 have n0:=bn.at 0
 have n1:=bn.at 1
 have n2:=bn.at 2
 have n3:=bn.at 3
 have n4:=bn.at 4
 have n5:=bn.at 5
 have n6:=bn.at 6
 have n7:=bn.at 7
 have ln:=bn.lt
 have s0:=bs.at 0
 have s1:=bs.at 1
 have ls:=bs.lt
 have HB:Hid (Below w.heap.size w w0):=Bw
 have HX:Hid (Box w0 (w.heap.size+1+1) nul):=br0
 clear bn bs br0 Bw
 go_enter Tryz.func61,Tryz.ntmps61
 go_upto_region 1 with fail
 rw [← hw0]
 clear hw0
 have br:=HX.out
 have lt1:=br.lt
 obtain ⟨r0,r1,r2,r3⟩:=br.at4
 dsimp only [nul] at r0 r1 r2 r3
 simp only [Nat.zero_add] at r1 r2 r3
 have f0:=br.free 0
 have f1:=br.free 1
 have f2:=br.free 2
 have f3:=br.free 3
 go_wp2
 refine bodyPost_ret_by (v:=.tuple #[va vk vn vm ⟨vb.toArray⟩,.int .i64 0]) ?_ rfl ⟨rfl,z1s HB.out (by omega) _ _ _ _⟩
 simp [results,Tryz.results61,go_sem,r0,r1,r2,r3]
theorem stp_col (xt xn vb:List UInt8) (vk vn vm xa:Int) (wo ta na ro:Option Addr) (wc tc nc rc p q m:Nat) (n:Nat) (w:World) (rk rn rm re:Int) (rb:ByteArray) (F:z0s 81 #[.agg #[.int .i64 2,.string ⟨xt.toArray⟩,.string ⟨xn.toArray⟩,.int .i64 vk,.int .i64 vn,.int .i64 vm,.string ⟨vb.toArray⟩,.int .i64 xa],scv ta na p q tc nc,.slice ro m rc] w (.tuple #[va rk rn rm rb,.int .i64 re])) :
  Calls Tryz.prog 61 #[.agg #[.int .i64 2,.string ⟨xt.toArray⟩,.string ⟨xn.toArray⟩,.int .i64 vk,.int .i64 vn,.int .i64 vm,.string ⟨vb.toArray⟩,.int .i64 xa],.slice wo n wc,scv ta na p q tc nc,.slice ro m rc] w fun e w'=>e=.returned (.tuple #[va rk rn rm rb,.int .i64 re])∧Below w.heap.size w w':=by
 obtain ⟨w0,hw0,bn,bs,br0,Bw⟩:=z4w w ⟨2,xt,xn,⟨vk,vn,vm,vb⟩,xa⟩ (.slice ta p tc) (.slice na q nc)
 have n0:=bn.at 0
 have n1:=bn.at 1
 have n2:=bn.at 2
 have n3:=bn.at 3
 have n4:=bn.at 4
 have n5:=bn.at 5
 have n6:=bn.at 6
 have n7:=bn.at 7
 have ln:=bn.lt
 have s0:=bs.at 0
 have s1:=bs.at 1
 have ls:=bs.lt
 have HB:Hid (Below w.heap.size w w0):=Bw
 have HX:Hid (Box w0 (w.heap.size+1+1) nul):=br0
 clear bn bs br0 Bw
 go_enter Tryz.func61,Tryz.ntmps61
 go_upto_region 1 with fail
 rw [← hw0]
 clear hw0
 go_wp2_with fail
 refine (F _ HB.out).mono ?_
 rintro e w1 ⟨rfl,b1⟩
 have B1:=z0a HB.out b1
 have br:=HX.out.later b1
 have lt1:=br.lt
 obtain ⟨r0,r1,r2,r3⟩:=br.at4
 dsimp only [nul] at r0 r1 r2 r3
 simp only [Nat.zero_add] at r1 r2 r3
 have f0:=br.free 0
 have f1:=br.free 1
 have f2:=br.free 2
 have f3:=br.free 3
 clear n0 n1 n2 n3 n4 n5 n6 n7 ln s0 s1 ls F
 go_wp2
 refine bodyPost_ret_by (v:=.tuple #[va rk rn rm rb,.int .i64 re]) ?_ rfl ⟨rfl,z1s B1 (by omega) _ _ _ _⟩
 simp [results,Tryz.results61,go_sem,r0,r1,r2,r3]
theorem stp_fun (xt xn vb:List UInt8) (vk vn vm xa:Int) (wo ta na ro:Option Addr) (wc tc nc rc p q m:Nat) (n:Nat) (w:World) (rk rn rm re:Int) (rb:ByteArray) (F:z0s 82 #[.string ⟨xn.toArray⟩,.slice wo n wc] w (.tuple #[va rk rn rm rb,.int .i64 re])) :
  Calls Tryz.prog 61 #[.agg #[.int .i64 19,.string ⟨xt.toArray⟩,.string ⟨xn.toArray⟩,.int .i64 vk,.int .i64 vn,.int .i64 vm,.string ⟨vb.toArray⟩,.int .i64 xa],.slice wo n wc,scv ta na p q tc nc,.slice ro m rc] w fun e w'=>e=.returned (.tuple #[va rk rn rm rb,.int .i64 re])∧Below w.heap.size w w':=by
 obtain ⟨w0,hw0,bn,bs,br0,Bw⟩:=z4w w ⟨19,xt,xn,⟨vk,vn,vm,vb⟩,xa⟩ (.slice ta p tc) (.slice na q nc)
 have n0:=bn.at 0
 have n1:=bn.at 1
 have n2:=bn.at 2
 have n3:=bn.at 3
 have n4:=bn.at 4
 have n5:=bn.at 5
 have n6:=bn.at 6
 have n7:=bn.at 7
 have ln:=bn.lt
 have s0:=bs.at 0
 have s1:=bs.at 1
 have ls:=bs.lt
 have HB:Hid (Below w.heap.size w w0):=Bw
 have HX:Hid (Box w0 (w.heap.size+1+1) nul):=br0
 clear bn bs br0 Bw
 go_enter Tryz.func61,Tryz.ntmps61
 go_upto_region 1 with fail
 rw [← hw0]
 clear hw0
 go_wp2_with fail
 refine (F _ HB.out).mono ?_
 rintro e w1 ⟨rfl,b1⟩
 have B1:=z0a HB.out b1
 have br:=HX.out.later b1
 have lt1:=br.lt
 obtain ⟨r0,r1,r2,r3⟩:=br.at4
 dsimp only [nul] at r0 r1 r2 r3
 simp only [Nat.zero_add] at r1 r2 r3
 have f0:=br.free 0
 have f1:=br.free 1
 have f2:=br.free 2
 have f3:=br.free 3
 clear n0 n1 n2 n3 n4 n5 n6 n7 ln s0 s1 ls F
 go_wp2
 refine bodyPost_ret_by (v:=.tuple #[va rk rn rm rb,.int .i64 re]) ?_ rfl ⟨rfl,z1s B1 (by omega) _ _ _ _⟩
 simp [results,Tryz.results61,go_sem,r0,r1,r2,r3]
theorem stp_one (xo:Int) (xt xn vb:List UInt8) (vk vn vm xa:Int) (wo ta na ro:Option Addr) (wc tc nc rc p q m:Nat) (w:World) (bk off:Nat) (ak an am:Int) (ab:List UInt8) (hwo:wo=some ⟨bk,off,none⟩) (h4:At4 w bk off ⟨ak,an,am,ab⟩) (o1:(xo==1)=false) (o2:(xo==2)=false) (o19:(xo==19)=false) (rk rn rm re:Int) (rb:ByteArray) (F:z0s 83 #[.int .i64 xo,va ak an am ⟨ab.toArray⟩] w (.tuple #[va rk rn rm rb,.int .i64 re])) :
  Calls Tryz.prog 61 #[.agg #[.int .i64 xo,.string ⟨xt.toArray⟩,.string ⟨xn.toArray⟩,.int .i64 vk,.int .i64 vn,.int .i64 vm,.string ⟨vb.toArray⟩,.int .i64 xa],.slice wo 1 wc,scv ta na p q tc nc,.slice ro m rc] w fun e w'=>e=.returned (.tuple #[va rk rn rm rb,.int .i64 re])∧Below w.heap.size w w':=by
 obtain ⟨w0,hw0,bn,bs,br0,Bw⟩:=z4w w ⟨xo,xt,xn,⟨vk,vn,vm,vb⟩,xa⟩ (.slice ta p tc) (.slice na q nc)
 have n0:=bn.at 0
 have n1:=bn.at 1
 have n2:=bn.at 2
 have n3:=bn.at 3
 have n4:=bn.at 4
 have n5:=bn.at 5
 have n6:=bn.at 6
 have n7:=bn.at 7
 have ln:=bn.lt
 have s0:=bs.at 0
 have s1:=bs.at 1
 have ls:=bs.lt
 have HB:Hid (Below w.heap.size w w0):=Bw
 have HX:Hid (Box w0 (w.heap.size+1+1) nul):=br0
 clear bn bs br0 Bw
 go_enter Tryz.func61,Tryz.ntmps61
 go_upto_region 1 with fail
 rw [← hw0]
 clear hw0
 subst hwo
 have br:=HX.out
 have lt1:=br.lt
 obtain ⟨r0,r1,r2,r3⟩:=br.at4
 dsimp only [nul] at r0 r1 r2 r3
 simp only [Nat.zero_add] at r1 r2 r3
 have f0:=br.free 0
 have f1:=br.free 1
 have f2:=br.free 2
 have f3:=br.free 3
 obtain ⟨c0,c1,c2,c3⟩:=h4.later HB.out
 have hg:=(h4.later HB.out).lt
 have hg':=h4.lt
 have z0:IntKind.i64.wrap 0=0:=by rw [IntKind.wrap_i64];rfl
 have z1:IntKind.i64.wrap 1=1:=by rw [IntKind.wrap_i64];rfl
 have nb:¬ w.heap.size+1+1=bk:=by omega
 have nb':¬ bk=w.heap.size+1+1:=by omega
 dsimp only at c0 c1 c2 c3
 clear br h4 s0 s1 ls n1 n2 n3 n4 n5 n6 n7
 go_wp2_with fail
 go_region_held2 (fun W=>W.cell? ⟨bk,off,none⟩=some (.int .i64 ak)∧W.cell? ⟨bk,off+1,none⟩=some (.int .i64 an)∧W.cell? ⟨bk,off+2,none⟩=some (.int .i64 am)∧W.cell? ⟨bk,off+3,none⟩=some (.string ⟨ab.toArray⟩)∧W.cell? ⟨w.heap.size,0,none⟩=some (.int .i64 xo)) (simp (maxDischargeDepth:=12) [go_sem,c0,c1,c2,c3,n0,ln,hg]) ((go_at_call 83;refine (F _ (z0a HB.out (z1z.below gC))).mono ?_;rintro e w2 ⟨rfl,bc⟩;obtain ⟨osc,dc,rfl⟩:=wide bc;clear bc))
 all_goals go_wp2
 all_goals refine bodyPost_ret_by (v:=.tuple #[va rk rn rm rb,.int .i64 re]) ?_ rfl ⟨rfl,?_⟩
 ·simp [results,Tryz.results61,go_sem,r0,r1,r2,r3,lt1]
 ·exact z0a (z1s (q:=w.heap.size+1+1) HB.out (by omega) _ _ _ _) (z1z.below gC)
theorem stp_two (xo:Int) (xt xn vb:List UInt8) (vk vn vm xa:Int) (wo ta na ro:Option Addr) (wc tc nc rc p q m:Nat) (w:World) (bk off:Nat) (ak an am:Int) (ab:List UInt8) (ck cn cm:Int) (cb:List UInt8) (hwo:wo=some ⟨bk,off,none⟩) (h4:At4 w bk off ⟨ak,an,am,ab⟩) (g4:At4 w bk (off+4) ⟨ck,cn,cm,cb⟩) (o1:(xo==1)=false) (o2:(xo==2)=false) (o19:(xo==19)=false) (rk rn rm re:Int) (rb:ByteArray) (F:z0s 84 #[.int .i64 xo,va ak an am ⟨ab.toArray⟩,va ck cn cm ⟨cb.toArray⟩] w (.tuple #[va rk rn rm rb,.int .i64 re])) :
  Calls Tryz.prog 61 #[.agg #[.int .i64 xo,.string ⟨xt.toArray⟩,.string ⟨xn.toArray⟩,.int .i64 vk,.int .i64 vn,.int .i64 vm,.string ⟨vb.toArray⟩,.int .i64 xa],.slice wo 2 wc,scv ta na p q tc nc,.slice ro m rc] w fun e w'=>e=.returned (.tuple #[va rk rn rm rb,.int .i64 re])∧Below w.heap.size w w':=by
 obtain ⟨w0,hw0,bn,bs,br0,Bw⟩:=z4w w ⟨xo,xt,xn,⟨vk,vn,vm,vb⟩,xa⟩ (.slice ta p tc) (.slice na q nc)
 have n0:=bn.at 0
 have n1:=bn.at 1
 have n2:=bn.at 2
 have n3:=bn.at 3
 have n4:=bn.at 4
 have n5:=bn.at 5
 have n6:=bn.at 6
 have n7:=bn.at 7
 have ln:=bn.lt
 have s0:=bs.at 0
 have s1:=bs.at 1
 have ls:=bs.lt
 have HB:Hid (Below w.heap.size w w0):=Bw
 have HX:Hid (Box w0 (w.heap.size+1+1) nul):=br0
 clear bn bs br0 Bw
 go_enter Tryz.func61,Tryz.ntmps61
 go_upto_region 1 with fail
 rw [← hw0]
 clear hw0
 subst hwo
 have br:=HX.out
 have lt1:=br.lt
 obtain ⟨r0,r1,r2,r3⟩:=br.at4
 dsimp only [nul] at r0 r1 r2 r3
 simp only [Nat.zero_add] at r1 r2 r3
 have f0:=br.free 0
 have f1:=br.free 1
 have f2:=br.free 2
 have f3:=br.free 3
 obtain ⟨c0,c1,c2,c3⟩:=h4.later HB.out
 have hg:=(h4.later HB.out).lt
 have hg':=h4.lt
 obtain ⟨d0,d1,d2,d3⟩:=g4.later HB.out
 have z0:IntKind.i64.wrap 0=0:=by rw [IntKind.wrap_i64];rfl
 have z1:IntKind.i64.wrap 1=1:=by rw [IntKind.wrap_i64];rfl
 have nb:¬ w.heap.size+1+1=bk:=by omega
 have nb':¬ bk=w.heap.size+1+1:=by omega
 dsimp only at c0 c1 c2 c3 d0 d1 d2 d3
 clear br h4 g4 s0 s1 ls n1 n2 n3 n4 n5 n6 n7
 go_wp2_with fail
 go_region_held2 (fun W=>W.cell? ⟨bk,off,none⟩=some (.int .i64 ak)∧W.cell? ⟨bk,off+1,none⟩=some (.int .i64 an)∧W.cell? ⟨bk,off+2,none⟩=some (.int .i64 am)∧W.cell? ⟨bk,off+3,none⟩=some (.string ⟨ab.toArray⟩)∧W.cell? ⟨bk,off+4,none⟩=some (.int .i64 ck)∧W.cell? ⟨bk,off+4+1,none⟩=some (.int .i64 cn)∧W.cell? ⟨bk,off+4+2,none⟩=some (.int .i64 cm)∧W.cell? ⟨bk,off+4+3,none⟩=some (.string ⟨cb.toArray⟩)∧W.cell? ⟨w.heap.size,0,none⟩=some (.int .i64 xo)) (simp (maxDischargeDepth:=12) [go_sem,c0,c1,c2,c3,d0,d1,d2,d3,n0,ln,hg]) ((go_at_call 84;refine (F _ (z0a HB.out (z1z.below gC))).mono ?_;rintro e w2 ⟨rfl,bc⟩;obtain ⟨osc,dc,rfl⟩:=wide bc;clear bc))
 all_goals go_wp2
 all_goals refine bodyPost_ret_by (v:=.tuple #[va rk rn rm rb,.int .i64 re]) ?_ rfl ⟨rfl,?_⟩
 ·simp [results,Tryz.results61,go_sem,r0,r1,r2,r3,lt1]
 ·exact z0a (z1s (q:=w.heap.size+1+1) HB.out (by omega) _ _ _ _) (z1z.below gC)
end Go.Proofs.YtljkonkfeiojnaaGreatDoor
